/- policy's laws: PolicyNames: the walk. -/
import Derived.Test.YtenepkgjdoddgaaGreatDoorAw
import Derived.Laws.CopyOwn
namespace Go.Proofs.YtenepkgjdoddgaaGreatDoor
open Go.RowKit Go.Shelf
attribute [local irreducible] lb
theorem adC2_list (a b : List Nat) : (adC2 a b).toList = bvs a ++ bvs b := by unfold adC2; rfl
theorem adC2_size {a b : List Nat} (ha : Ad a) (hb : Ad b) : (adC2 a b).size = 40 := by unfold adC2; simp [bvs_len, ha.1, hb.1]
theorem range_fst {X : World} {g : Nat} {t : TypeId} {a b : List Nat} (_ha : Ad a) (h : Blk X g t (adC2 a b)) : X.rangeAt g 0 (adC a).toList := by
  intro j v hv
  rw [adC_list] at hv
  have hj := (List.getElem?_eq_some_iff.1 hv).1
  rw [cell_of_row X g (0 + j) _ _ _ h, ← Array.getElem?_toList, adC2_list, Nat.zero_add, List.getElem?_append_left hj]
  exact hv
theorem range_snd {X : World} {g : Nat} {t : TypeId} {a b : List Nat} (ha : Ad a) (h : Blk X g t (adC2 a b)) : X.rangeAt g 20 (adC b).toList := by
  intro j v hv
  rw [adC_list] at hv
  have hj := (List.getElem?_eq_some_iff.1 hv).1
  rw [cell_of_row X g (20 + j) _ _ _ h, ← Array.getElem?_toList, adC2_list, List.getElem?_append_right (by rw [bvs_len, ha.1]; omega), bvs_len, ha.1, show 20 + j - 20 = j by omega]
  exact hv
attribute [local irreducible] adC2
theorem boxN (a b : List Nat) (n : Nat) (w : World) : ∃ X, (w.alloc (.cells (adC2 a b) 56)).alloc (.cells #[.int .u64 (lb n 0), .int .u64 (lb n 1), .int .u64 (lb n 2), .int .u64 (lb n 3)] 58) = X ∧ Blk X w.heap.size 56 (adC2 a b) ∧ Blk X (w.heap.size + 1) 58 #[.int .u64 (lb n 0), .int .u64 (lb n 1), .int .u64 (lb n 2), .int .u64 (lb n 3)] ∧ Below w.heap.size w X ∧ X.heap.size = w.heap.size + 2 :=
  ⟨_, rfl, (Blk.new w _ _).alloc _, Blk.newS w _ _ _, balloc (balloc (Below.refl _ _) _) _, by simp⟩
set_option maxRecDepth 100000 in
set_option maxHeartbeats 4000000 in
theorem names_walk (a b : List Nat) (s : ByteArray) (n : Nat) (w : World) (ha : Ad a) (hb : Ad b) (hT : TZ w) (hs : s.size ≤ 60) :
    Calls Tryz.prog 6 #[.agg (adC2 a b), .string s, W n] w fun e w' => e = .returned (.bool true) ∧ Below w.heap.size w w' := by
  obtain ⟨X, hX, b1, b2, hW, hS⟩ := boxN a b n w
  have HX := Lib.hid hX
  have H0 := Lib.hid (And.intro b1 (And.intro b2 (And.intro hW hS)))
  have HA := Lib.hid (And.intro ha hb)
  have HT := Lib.hid hT
  clear hX b1 b2 hW hS ha hb hT
  go_enter Tryz.func6, Tryz.ntmps6
  go_upto_region 1 with fail
  rw [HX.out]
  have hS0 : Below X.heap.size X X.drew := ⟨rfl, rfl, rfl, Nat.le_refl _, fun _ _ => rfl⟩
  go_cut [7, 8] from 15 to 18 (fun p q wx => ∃ gp gq : Nat, p = .pointer (some ⟨gp, 0, none⟩) ∧ q = .pointer (some ⟨gq, 0, none⟩) ∧ gp ≠ gq ∧ Blk wx gp 29 (adC a) ∧ Blk wx gq 29 (adC b) ∧ Below X.heap.size X wx)
  case first =>
    refine wp_region_held_drew (S := fun w' => Below X.heap.size X w') (by as_aux_lemma => kernel_rfl) hS0 (fun hHeld => ?_)
    simp only [List.size_toArray, List.length_cons, List.length_nil, Nat.reduceAdd, Array.replicate_succ, Array.replicate_zero, List.push_toArray, List.nil_append, List.cons_append]
    refine wpAnyH_take (i := 0) (oi := { dst := some 15, op := Op.indexAddr 56 (Operand.tmp 3) (Operand.const (Value.int IntKind.i64 0)), type := 0, pos := "law.go:100", after := #[], guard := none }) (v := ?vq0) rfl (by as_aux_lemma => kernel_rfl) (by as_aux_lemma => kernel_rfl) (by as_aux_lemma => kernel_rfl) (fun _ _ _ h => h) (Or.inl ⟨by rfl, ?yq0⟩) (by assumption) ?rq0
    case yq0 => (intro wS hSw; (try dsimp only at hSw); go_simp <;> with_reducible rfl)
    simp only [Act.put, List.setIfInBounds_toArray, List.set_cons_zero, List.set_cons_succ]
    refine wpAnyH_take (i := 1) (oi := { dst := some 16, op := Op.load 29 (Operand.tmp 15), type := 29, pos := "law.go:100", after := #[{ on := 0, ground := Ground.data }], guard := none }) (v := .agg (adC a)) rfl (by as_aux_lemma => kernel_rfl) (by as_aux_lemma => kernel_rfl) (by as_aux_lemma => kernel_rfl) (fun _ _ _ h => h) (yieldsIf_load_A (by rfl) 29 (.tmp 15) rfl w.heap.size 0 rfl (adC a) _ (fun w1 hw => range_fst HA.out.1 (H0.out.1.keep hw)) und_addr rfl (by rw [info_addr, adC_size HA.out.1])) (by assumption) ?_
    simp only [Act.put, List.setIfInBounds_toArray, List.set_cons_zero, List.set_cons_succ]
    refine wpAnyH_take (i := 2) (oi := { dst := some 17, op := Op.indexAddr 56 (Operand.tmp 3) (Operand.const (Value.int IntKind.i64 1)), type := 0, pos := "law.go:100", after := #[{ on := 6, ground := Ground.gcOnly Departure.lateStores }], guard := none }) (v := ?vq2) rfl (by as_aux_lemma => kernel_rfl) (by as_aux_lemma => kernel_rfl) (by as_aux_lemma => kernel_rfl) (fun _ _ _ h => h) (Or.inl ⟨by rfl, ?yq2⟩) (by assumption) ?rq2
    case yq2 => (intro wS hSw; (try dsimp only at hSw); go_simp <;> with_reducible rfl)
    simp only [Act.put, List.setIfInBounds_toArray, List.set_cons_zero, List.set_cons_succ]
    refine wpAnyH_take (i := 3) (oi := { dst := some 18, op := Op.load 29 (Operand.tmp 17), type := 29, pos := "law.go:100", after := #[{ on := 2, ground := Ground.data }, { on := 6, ground := Ground.gcOnly Departure.lateStores }], guard := none }) (v := .agg (adC b)) rfl (by as_aux_lemma => kernel_rfl) (by as_aux_lemma => kernel_rfl) (by as_aux_lemma => kernel_rfl) (fun _ _ _ h => h) (yieldsIf_load_A (by rfl) 29 (.tmp 17) rfl w.heap.size 20 rfl (adC b) _ (fun w1 hw => range_snd HA.out.1 (H0.out.1.keep hw)) und_addr rfl (by rw [info_addr, adC_size HA.out.2])) (by assumption) ?_
    simp only [Act.put, List.setIfInBounds_toArray, List.set_cons_zero, List.set_cons_succ]
    refine wpAnyH_ready (rs := [4, 5]) (by as_aux_lemma => kernel_rfl) (by simp) ?_
    refine AllReadyH.cons (o := { dst := some 7, op := Op.alloc 29, type := 0, pos := "law.go:100", after := #[], guard := none }) rfl (fun K hK => ?_) ?_
    · rw [if_pos (by rfl)]
      go_simp
      rw [← zaC_lit]
      refine hK.out _ _ (by (try dsimp only); (first | exact balloc (balloc hS0 _) _ | exact balloc hS0 _)) (fun hHeld => ?_)
      clear hK K
      simp only [List.setIfInBounds_toArray, List.set_cons_zero, List.set_cons_succ]
      refine wpAnyH_ready (rs := [5]) (by as_aux_lemma => kernel_rfl) (by simp) ?_
      refine AllReadyH.cons (o := { dst := some 8, op := Op.alloc 29, type := 0, pos := "law.go:100", after := #[], guard := none }) rfl (fun K hK => ?_) (by exact AllReadyH.nil)
      rw [if_pos (by rfl)]
      go_simp
      rw [← zaC_lit]
      refine hK.out _ _ (by (try dsimp only); (first | exact balloc (balloc hS0 _) _ | exact balloc hS0 _)) (fun hHeld => ?_)
      clear hK K
      simp only [List.setIfInBounds_toArray, List.set_cons_zero, List.set_cons_succ]
      have hY0 : Blk ((X.alloc (.cells zaC 29)).alloc (.cells zaC 29)).drew X.heap.size 29 zaC := ((Blk.new X _ _).alloc _).drew'
      have hY1 : Blk ((X.alloc (.cells zaC 29)).alloc (.cells zaC 29)).drew (X.heap.size + 1) 29 zaC := (Blk.newS X _ _ _).drew'
      have hz : Below X.heap.size X ((X.alloc (.cells zaC 29)).alloc (.cells zaC 29)).drew := (balloc (balloc (Below.refl _ _) _) _).drew
      obtain ⟨Y, hY⟩ : ∃ Y, ((X.alloc (.cells zaC 29)).alloc (.cells zaC 29)).drew = Y := ⟨_, rfl⟩
      rw [hY] at hY0 hY1 hz ⊢
      clear hY
      have hp := hY0
      have hq := hY1
      try simp only [World.size_drew, World.size_alloc]
      refine wpAnyH_ready (rs := [6]) (by as_aux_lemma => kernel_rfl) (by simp) ?_
      refine AllReadyH.cons (o := { dst := none, op := Op.store 29 (Operand.tmp 7) (Operand.tmp 16), type := 0, pos := "law.go:100", after := #[{ on := 4, ground := Ground.data }, { on := 1, ground := Ground.data }, { on := 0, ground := Ground.phase }, { on := 1, ground := Ground.phase }, { on := 2, ground := Ground.textOnly Departure.lateStores }, { on := 3, ground := Ground.textOnly Departure.lateStores }, { on := 4, ground := Ground.phase }, { on := 5, ground := Ground.phase }], guard := none }) rfl (fun K hK => ?_) (by exact AllReadyH.nil)
      rw [if_pos (by rfl)]
      refine wp_store_row 29 (.tmp 7) (.tmp 16) rfl X.heap.size (adC a) rfl rfl 29 zaC hp (by rw [info_addr, adC_size HA.out.1]) (by rw [zaC_size, adC_size HA.out.1]) (adC_one _) ?_
      have hp1 : Blk (Y.setRow X.heap.size (adC a)) X.heap.size 29 (adC a) := setRow_heap _ _ _ _ _ _ hp
      have hq1 : Blk (Y.setRow X.heap.size (adC a)) (X.heap.size + 1) 29 zaC := (setRow_other _ _ _ _ (by omega)).trans hq
      have hz1 : Below X.heap.size X (Y.setRow X.heap.size (adC a)) := below_setRow hz (by omega) _
      obtain ⟨Z1, hZ1⟩ : ∃ Z1, Y.setRow X.heap.size (adC a) = Z1 := ⟨_, rfl⟩
      rw [hZ1] at hp1 hq1 hz1 ⊢
      clear hZ1
      refine hK.out _ _ (by (try dsimp only); (first | exact hz2 | exact hz1)) (fun hHeld => ?_)
      clear hK K
      simp only [List.setIfInBounds_toArray, List.set_cons_zero, List.set_cons_succ]
      refine wpAnyH_ready (rs := [7]) (by as_aux_lemma => kernel_rfl) (by simp) ?_
      refine AllReadyH.cons (o := { dst := none, op := Op.store 29 (Operand.tmp 8) (Operand.tmp 18), type := 0, pos := "law.go:100", after := #[{ on := 5, ground := Ground.data }, { on := 3, ground := Ground.data }, { on := 6, ground := Ground.chain }, { on := 0, ground := Ground.phase }, { on := 1, ground := Ground.phase }, { on := 2, ground := Ground.phase }, { on := 3, ground := Ground.phase }, { on := 4, ground := Ground.phase }, { on := 5, ground := Ground.phase }, { on := 6, ground := Ground.phase }], guard := none }) rfl (fun K hK => ?_) (by exact AllReadyH.nil)
      rw [if_pos (by rfl)]
      refine wp_store_row 29 (.tmp 8) (.tmp 18) rfl (X.heap.size + 1) (adC b) rfl rfl 29 zaC hq1 (by rw [info_addr, adC_size HA.out.2]) (by rw [zaC_size, adC_size HA.out.2]) (adC_one _) ?_
      have hq2 : Blk (Z1.setRow (X.heap.size + 1) (adC b)) (X.heap.size + 1) 29 (adC b) := setRow_heap _ _ _ _ _ _ hq1
      have hp2 : Blk (Z1.setRow (X.heap.size + 1) (adC b)) X.heap.size 29 (adC a) := (setRow_other _ _ _ _ (by omega)).trans hp1
      have hz2 : Below X.heap.size X (Z1.setRow (X.heap.size + 1) (adC b)) := below_setRow hz1 (by omega) _
      obtain ⟨Z2, hZ2⟩ : ∃ Z2, Z1.setRow (X.heap.size + 1) (adC b) = Z2 := ⟨_, rfl⟩
      rw [hZ2] at hp2 hq2 hz2 ⊢
      clear hZ2
      refine hK.out _ _ (by (try dsimp only); (first | exact hz2 | exact hz1)) (fun hHeld => ?_)
      clear hK K
      simp only [List.setIfInBounds_toArray, List.set_cons_zero, List.set_cons_succ]
      refine wpAnyH_done (by as_aux_lemma => kernel_rfl) ?_ _
      clear hHeld
      go_wp2_with fail
      go_meet
      exact ⟨X.heap.size, (X.heap.size + 1), rfl, rfl, by omega, hp2, hq2, hz2⟩
    refine AllReadyH.cons (o := { dst := some 8, op := Op.alloc 29, type := 0, pos := "law.go:100", after := #[], guard := none }) rfl (fun K hK => ?_) (by exact AllReadyH.nil)
    rw [if_pos (by rfl)]
    go_simp
    rw [← zaC_lit]
    refine hK.out _ _ (by (try dsimp only); (first | exact balloc (balloc hS0 _) _ | exact balloc hS0 _)) (fun hHeld => ?_)
    clear hK K
    simp only [List.setIfInBounds_toArray, List.set_cons_zero, List.set_cons_succ]
    refine wpAnyH_ready (rs := [4]) (by as_aux_lemma => kernel_rfl) (by simp) ?_
    refine AllReadyH.cons (o := { dst := some 7, op := Op.alloc 29, type := 0, pos := "law.go:100", after := #[], guard := none }) rfl (fun K hK => ?_) (by exact AllReadyH.nil)
    rw [if_pos (by rfl)]
    go_simp
    rw [← zaC_lit]
    refine hK.out _ _ (by (try dsimp only); (first | exact balloc (balloc hS0 _) _ | exact balloc hS0 _)) (fun hHeld => ?_)
    clear hK K
    simp only [List.setIfInBounds_toArray, List.set_cons_zero, List.set_cons_succ]
    have hY0 : Blk ((X.alloc (.cells zaC 29)).alloc (.cells zaC 29)).drew X.heap.size 29 zaC := ((Blk.new X _ _).alloc _).drew'
    have hY1 : Blk ((X.alloc (.cells zaC 29)).alloc (.cells zaC 29)).drew (X.heap.size + 1) 29 zaC := (Blk.newS X _ _ _).drew'
    have hz : Below X.heap.size X ((X.alloc (.cells zaC 29)).alloc (.cells zaC 29)).drew := (balloc (balloc (Below.refl _ _) _) _).drew
    obtain ⟨Y, hY⟩ : ∃ Y, ((X.alloc (.cells zaC 29)).alloc (.cells zaC 29)).drew = Y := ⟨_, rfl⟩
    rw [hY] at hY0 hY1 hz ⊢
    clear hY
    have hp := hY1
    have hq := hY0
    try simp only [World.size_drew, World.size_alloc]
    refine wpAnyH_ready (rs := [6]) (by as_aux_lemma => kernel_rfl) (by simp) ?_
    refine AllReadyH.cons (o := { dst := none, op := Op.store 29 (Operand.tmp 7) (Operand.tmp 16), type := 0, pos := "law.go:100", after := #[{ on := 4, ground := Ground.data }, { on := 1, ground := Ground.data }, { on := 0, ground := Ground.phase }, { on := 1, ground := Ground.phase }, { on := 2, ground := Ground.textOnly Departure.lateStores }, { on := 3, ground := Ground.textOnly Departure.lateStores }, { on := 4, ground := Ground.phase }, { on := 5, ground := Ground.phase }], guard := none }) rfl (fun K hK => ?_) (by exact AllReadyH.nil)
    rw [if_pos (by rfl)]
    refine wp_store_row 29 (.tmp 7) (.tmp 16) rfl (X.heap.size + 1) (adC a) rfl rfl 29 zaC hp (by rw [info_addr, adC_size HA.out.1]) (by rw [zaC_size, adC_size HA.out.1]) (adC_one _) ?_
    have hp1 : Blk (Y.setRow (X.heap.size + 1) (adC a)) (X.heap.size + 1) 29 (adC a) := setRow_heap _ _ _ _ _ _ hp
    have hq1 : Blk (Y.setRow (X.heap.size + 1) (adC a)) X.heap.size 29 zaC := (setRow_other _ _ _ _ (by omega)).trans hq
    have hz1 : Below X.heap.size X (Y.setRow (X.heap.size + 1) (adC a)) := below_setRow hz (by omega) _
    obtain ⟨Z1, hZ1⟩ : ∃ Z1, Y.setRow (X.heap.size + 1) (adC a) = Z1 := ⟨_, rfl⟩
    rw [hZ1] at hp1 hq1 hz1 ⊢
    clear hZ1
    refine hK.out _ _ (by (try dsimp only); (first | exact hz2 | exact hz1)) (fun hHeld => ?_)
    clear hK K
    simp only [List.setIfInBounds_toArray, List.set_cons_zero, List.set_cons_succ]
    refine wpAnyH_ready (rs := [7]) (by as_aux_lemma => kernel_rfl) (by simp) ?_
    refine AllReadyH.cons (o := { dst := none, op := Op.store 29 (Operand.tmp 8) (Operand.tmp 18), type := 0, pos := "law.go:100", after := #[{ on := 5, ground := Ground.data }, { on := 3, ground := Ground.data }, { on := 6, ground := Ground.chain }, { on := 0, ground := Ground.phase }, { on := 1, ground := Ground.phase }, { on := 2, ground := Ground.phase }, { on := 3, ground := Ground.phase }, { on := 4, ground := Ground.phase }, { on := 5, ground := Ground.phase }, { on := 6, ground := Ground.phase }], guard := none }) rfl (fun K hK => ?_) (by exact AllReadyH.nil)
    rw [if_pos (by rfl)]
    refine wp_store_row 29 (.tmp 8) (.tmp 18) rfl X.heap.size (adC b) rfl rfl 29 zaC hq1 (by rw [info_addr, adC_size HA.out.2]) (by rw [zaC_size, adC_size HA.out.2]) (adC_one _) ?_
    have hq2 : Blk (Z1.setRow X.heap.size (adC b)) X.heap.size 29 (adC b) := setRow_heap _ _ _ _ _ _ hq1
    have hp2 : Blk (Z1.setRow X.heap.size (adC b)) (X.heap.size + 1) 29 (adC a) := (setRow_other _ _ _ _ (by omega)).trans hp1
    have hz2 : Below X.heap.size X (Z1.setRow X.heap.size (adC b)) := below_setRow hz1 (by omega) _
    obtain ⟨Z2, hZ2⟩ : ∃ Z2, Z1.setRow X.heap.size (adC b) = Z2 := ⟨_, rfl⟩
    rw [hZ2] at hp2 hq2 hz2 ⊢
    clear hZ2
    refine hK.out _ _ (by (try dsimp only); (first | exact hz2 | exact hz1)) (fun hHeld => ?_)
    clear hK K
    simp only [List.setIfInBounds_toArray, List.set_cons_zero, List.set_cons_succ]
    refine wpAnyH_done (by as_aux_lemma => kernel_rfl) ?_ _
    clear hHeld
    go_wp2_with fail
    go_meet
    exact ⟨(X.heap.size + 1), X.heap.size, rfl, rfl, by omega, hp2, hq2, hz2⟩
  case rest =>
    obtain ⟨gp, gq, rfl, rfl, hne, kp, kq, hD⟩ := hcut
    obtain ⟨A, ok, en, hA, hen, hc1, hc2⟩ := addr_both s
    have HC1 := Lib.hid hc1
    have HC2 := Lib.hid hc2
    have HAA := Lib.hid (And.intro hA hen)
    have HN := Lib.hid (fun Y => nname_any a HA.out.1 Y)
    have HAN := Lib.hid (fun Y => address_name a HA.out.1 Y)
    obtain ⟨NM, hNM⟩ : ∃ NM, (⟨(nmL a).toArray⟩ : ByteArray) = NM := ⟨_, rfl⟩
    rw [hNM] at HN HAN
    have hNM' := hNM
    have hX0 : Below w.heap.size w wc := H0.out.2.2.1.trans (hD.mono H0.out.2.2.1.size)
    have k5 := H0.out.2.1.keep hD
    have hw5 : w.heap.size + 2 ≤ wc.heap.size := by have := hD.size; rw [H0.out.2.2.2] at this; exact this
    have HW := Lib.hid (And.intro kp (And.intro kq (And.intro k5 (And.intro hX0 hne))))
    clear hc1 hc2 hA hen hNM hD hX0 k5 hne kp kq
    have g0 : (s.size : Int) ≤ 60 := by omega
    go_upto_region 4 with fail
    refine wp_region_lit ?_
    refine wpList_plain rfl fun K hK => ?_
    go_simp
    refine hK _ _ ?_
    clear hK K
    refine wpList_plain rfl fun K hK => ?_
    go_simp
    refine (HC1.out _).mono ?_; rintro e w1 ⟨rfl, h1⟩
    refine hK _ _ ?_
    clear hK K
    refine wpList_plain rfl fun K hK => ?_
    go_simp
    refine hK _ _ ?_
    clear hK K
    refine wpList_plain rfl fun K hK => ?_
    go_simp
    refine hK _ _ ?_
    clear hK K
    refine wpList_plain rfl fun K hK => ?_
    go_simp
    refine hK _ _ ?_
    clear hK K
    refine wpList_plain rfl fun K hK => ?_
    go_simp
    refine hK _ _ ?_
    rw [← zaC_lit]
    clear hK K
    refine wpList_store_row rfl 29 (.tmp 9) (.tmp 26) rfl w1.heap.size (adC A) rfl rfl 29 zaC (Blk.new w1 _ _) (by rw [info_addr, adC_size HAA.out.1]) (by rw [zaC_size, adC_size HAA.out.1]) (adC_one _) ?_
    rw [World.setRow_alloc_new]
    refine wpList_plain rfl fun K hK => ?_
    go_simp
    refine hK _ _ ?_
    clear hK K
    refine wpList_nil ?_
    have kn1 := Blk.new w1 29 (adC A)
    have hn1 := balloc (Below.refl w1.heap.size w1) (.cells (adC A) 29)
    obtain ⟨V1, hV1⟩ : ∃ V, w1.alloc (.cells (adC A) 29) = V := ⟨_, rfl⟩
    rw [hV1] at kn1 hn1 ⊢
    clear hV1
    go_upto_region 5 with fail
    refine wp_region_lit ?_
    refine wpList_plain rfl fun K hK => ?_
    go_simp
    refine hK _ _ ?_
    clear hK K
    refine wpList_plain rfl fun K hK => ?_
    go_simp
    refine (HC2.out _).mono ?_; rintro e w2 ⟨rfl, h2⟩
    refine hK _ _ ?_
    clear hK K
    refine wpList_plain rfl fun K hK => ?_
    go_simp
    refine hK _ _ ?_
    clear hK K
    refine wpList_plain rfl fun K hK => ?_
    go_simp
    refine hK _ _ ?_
    clear hK K
    refine wpList_plain rfl fun K hK => ?_
    go_simp
    refine hK _ _ ?_
    clear hK K
    refine wpList_plain rfl fun K hK => ?_
    go_simp
    refine hK _ _ ?_
    rw [← zaC_lit]
    clear hK K
    refine wpList_store_row rfl 29 (.tmp 11) (.tmp 31) rfl w2.heap.size (adC A) rfl rfl 29 zaC (Blk.new w2 _ _) (by rw [info_addr, adC_size HAA.out.1]) (by rw [zaC_size, adC_size HAA.out.1]) (adC_one _) ?_
    rw [World.setRow_alloc_new]
    refine wpList_plain rfl fun K hK => ?_
    go_simp
    refine hK _ _ ?_
    clear hK K
    refine wpList_nil ?_
    have kn2 := Blk.new w2 29 (adC A)
    have hn2 := balloc (Below.refl w2.heap.size w2) (.cells (adC A) 29)
    obtain ⟨V2, hV2⟩ : ∃ V, w2.alloc (.cells (adC A) 29) = V := ⟨_, rfl⟩
    rw [hV2] at kn2 hn2 ⊢
    clear hV2
    have b1 : Below wc.heap.size wc V1 := h1.trans (hn1.mono h1.size)
    have b2 : Below wc.heap.size wc V2 := (b1.trans (h2.mono b1.size)).trans (hn2.mono (b1.trans (h2.mono b1.size)).size)
    have kA := kn1.keep (h2.trans (hn2.mono h2.size))
    go_upto_region 6 with fail
    refine wp_region_lit ?_
    refine wpList_load_midA rfl 29 (.tmp 7) rfl gp 0 rfl (adC a) _ (HW.out.1.keep b2).range und_addr rfl (by rw [info_addr, adC_size HA.out.1]) ?_
    refine wpList_plain rfl fun K hK => ?_
    go_simp
    refine (HN.out _).mono ?_; rintro e w3 ⟨rfl, h3⟩
    refine hK _ _ ?_
    clear hK K
    refine wpList_plain rfl fun K hK => ?_
    go_simp
    refine (HAN.out _).mono ?_; rintro e w4 ⟨rfl, h4⟩
    refine hK _ _ ?_
    clear hK K
    refine wpList_plain rfl fun K hK => ?_
    go_simp
    refine hK _ _ ?_
    clear hK K
    refine wpList_plain rfl fun K hK => ?_
    go_simp
    refine hK _ _ ?_
    clear hK K
    refine wpList_plain rfl fun K hK => ?_
    go_simp
    refine hK _ _ ?_
    clear hK K
    refine wpList_plain rfl fun K hK => ?_
    go_simp
    refine hK _ _ ?_
    rw [← zaC_lit]
    clear hK K
    refine wpList_store_row rfl 29 (.tmp 13) (.tmp 37) rfl w4.heap.size (adC a) rfl rfl 29 zaC (Blk.new w4 _ _) (by rw [info_addr, adC_size HA.out.1]) (by rw [zaC_size, adC_size HA.out.1]) (adC_one _) ?_
    rw [World.setRow_alloc_new]
    refine wpList_plain rfl fun K hK => ?_
    go_simp
    refine hK _ _ ?_
    clear hK K
    refine wpList_nil ?_
    have kn3 := Blk.new w4 29 (adC a)
    have hn3 := balloc (Below.refl w4.heap.size w4) (.cells (adC a) 29)
    obtain ⟨V3, hV3⟩ : ∃ V, w4.alloc (.cells (adC a) 29) = V := ⟨_, rfl⟩
    rw [hV3] at kn3 hn3 ⊢
    clear hV3
    have b3' : Below wc.heap.size wc w4 := (b2.trans (h3.mono b2.size)).trans (h4.mono (b2.trans (h3.mono b2.size)).size)
    have b3 : Below wc.heap.size wc V3 := b3'.trans (hn3.mono b3'.size)
    have h5 : Below V2.heap.size V2 V3 := (h3.trans (h4.mono h3.size)).trans (hn3.mono (h3.trans (h4.mono h3.size)).size)
    have kA3 := kA.keep h5
    have kB3 := kn2.keep h5
    have hBV : Below w.heap.size w V3 := HW.out.2.2.2.1.trans (b3.mono HW.out.2.2.2.1.size)
    obtain ⟨p1, hp1⟩ : ∃ p, w1.heap.size = p := ⟨_, rfl⟩
    obtain ⟨p2, hp2⟩ : ∃ p, w2.heap.size = p := ⟨_, rfl⟩
    obtain ⟨p3, hp3⟩ : ∃ p, w4.heap.size = p := ⟨_, rfl⟩
    obtain ⟨p5, hp5⟩ : ∃ p, w.heap.size + 1 = p := ⟨_, rfl⟩
    have kW3 := HW.out.2.2.1.keep b3
    have kp3 := HW.out.1.keep b3
    have kq3 := HW.out.2.1.keep b3
    simp only [hp1, hp2, hp3, hp5] at kA3 kB3 kn3 kW3 ⊢
    have HP := Lib.hid (fun (Y : World) (hY : Below V3.heap.size V3 Y) => (⟨kp3.keep hY, kq3.keep hY, kA3.keep hY, kB3.keep hY, kn3.keep hY, cell_of_row _ _ 0 _ _ _ (kW3.keep hY), cell_of_row _ _ 1 _ _ _ (kW3.keep hY), cell_of_row _ _ 2 _ _ _ (kW3.keep hY), cell_of_row _ _ 3 _ _ _ (kW3.keep hY)⟩ : Blk Y gp 29 (adC a) ∧ Blk Y gq 29 (adC b) ∧ Blk Y p1 29 (adC A) ∧ Blk Y p2 29 (adC A) ∧ Blk Y p3 29 (adC a) ∧ Y.cell? ⟨p5, 0, none⟩ = some (.int .u64 (lb n 0)) ∧ Y.cell? ⟨p5, 1, none⟩ = some (.int .u64 (lb n 1)) ∧ Y.cell? ⟨p5, 2, none⟩ = some (.int .u64 (lb n 2)) ∧ Y.cell? ⟨p5, 3, none⟩ = some (.int .u64 (lb n 3))))
    have HE := Lib.hid (And.intro hBV (HT.out.keep hBV))
    have HR := Lib.hid (fun Y => rname_any a HA.out.1 Y)
    rw [hNM'] at HR
    clear kn1 kn2 kn3 hn1 hn2 hn3 h1 h2 h3 h4 h5 b1 b2 b3 b3' kA kA3 kB3 kW3 kp3 kq3 hBV hp1 hp2 hp3 hp5 HC1 HC2 HN HAN HW hw5 H0 HX hS0
    go_upto_region 7 with fail
    simp only [List.append_eq, List.cons_append, List.nil_append]
    have HO1 := Lib.hid (fun Y => porder_any a b HA.out.1 HA.out.2 Y)
    have HO2 := Lib.hid (fun Y => rorder_any a b HA.out.1 HA.out.2 Y)
    have HO3 := Lib.hid (fun Y => wdorder_any a b HA.out.1 HA.out.2 Y)
    obtain ⟨o, ho⟩ : ∃ o, ordN (bv a) (bv b) = o := ⟨_, rfl⟩
    rw [ho] at HO1 HO2 HO3
    have HN := Lib.hid (fun Y => nname_any a HA.out.1 Y)
    rw [hNM'] at HN
    have HWa := Lib.hid (fun Y => nword_any a HA.out.1 Y)
    have HWb := Lib.hid (fun Y => nword_any b HA.out.2 Y)
    have HRW := Lib.hid (fun Y => rnword_any a HA.out.1 Y)
    have HF1 := Lib.hid (fun Y => ofW_any n Y)
    have HF2 := Lib.hid (fun Y => rofW_any n Y)
    have HF3 := Lib.hid (fun Y => ofW_any (bv a) Y)
    rw [low_bv HA.out.1] at HF3
    have hqA : ∀ Y, (binOp .eql 29 (.agg (adC A)) (.agg (adC A))).run Tryz.prog Y = .ok (.bool true) Y := fun Y => by
      have h := eq_addr HAA.out.1 HAA.out.1 Y
      rwa [decide_eq_true rfl] at h
    have hqa : ∀ Y, (binOp .eql 29 (.agg (adC a)) (.agg (adC a))).run Tryz.prog Y = .ok (.bool true) Y := fun Y => by
      have h := eq_addr HA.out.1 HA.out.1 Y
      rwa [decide_eq_true rfl] at h
    have hqn : ∀ Y, (binOp .eql 29 (.agg (adC (lowA n))) (.agg (adC (lowA n)))).run Tryz.prog Y = .ok (.bool true) Y := fun Y => by
      have h := eq_addr (lowA_ad n) (lowA_ad n) Y
      rwa [decide_eq_true rfl] at h
    have q0 : (o == o) = true := by simp
    have hqw : ∀ Y, (binOp .eql 58 (.agg #[.int .u64 (lb (bv a) 0), .int .u64 (lb (bv a) 1), .int .u64 (lb (bv a) 2), .int .u64 (lb (bv a) 3)]) (.agg #[.int .u64 (lb (bv a) 0), .int .u64 (lb (bv a) 1), .int .u64 (lb (bv a) 2), .int .u64 (lb (bv a) 3)])).run Tryz.prog Y = .ok (.bool true) Y := fun Y => eqW_true (bv a) (bv a) rfl Y
    have hS7 : Below V3.heap.size V3 V3.drew := ⟨rfl, rfl, rfl, Nat.le_refl _, fun _ _ => rfl⟩
    clear ho hNM' hs g0
    rcases Bool.eq_false_or_eq_true ok with hok | hok
    · subst hok
      obtain rfl : en = 0 := HAA.out.2
      refine wp_region_held_drew (S := fun w' => Below V3.heap.size V3 w') (by as_aux_lemma => kernel_rfl) hS7 (fun hHeld => ?_)
      simp only [List.size_toArray, List.length_cons, List.length_nil, Nat.reduceAdd, Array.replicate_succ, Array.replicate_zero, List.push_toArray, List.nil_append, List.cons_append]
      refine wpAnyH_take (i := 0) (oi := { dst := some 39, op := Op.load 29 (Operand.tmp 7), type := 29, pos := "law.go:107", after := #[], guard := none }) (v := .agg (adC a)) rfl (by as_aux_lemma => kernel_rfl) (by as_aux_lemma => kernel_rfl) (by as_aux_lemma => kernel_rfl) (fun _ _ _ h => h) (yieldsIf_load_A (by rfl) 29 (.tmp 7) rfl (gp) (0) rfl (adC a) _ (fun w hw => (HP.out w hw).1.range) und_addr rfl (by rw [info_addr, adC_size HA.out.1])) (by assumption) ?_
      simp only [Act.put, List.setIfInBounds_toArray, List.set_cons_zero, List.set_cons_succ]
      refine wpAnyH_take (i := 1) (oi := { dst := some 40, op := Op.load 29 (Operand.tmp 8), type := 29, pos := "law.go:107", after := #[], guard := none }) (v := .agg (adC b)) rfl (by as_aux_lemma => kernel_rfl) (by as_aux_lemma => kernel_rfl) (by as_aux_lemma => kernel_rfl) (fun _ _ _ h => h) (yieldsIf_load_A (by rfl) 29 (.tmp 8) rfl (gq) (0) rfl (adC b) _ (fun w hw => (HP.out w hw).2.1.range) und_addr rfl (by rw [info_addr, adC_size HA.out.2])) (by assumption) ?_
      simp only [Act.put, List.setIfInBounds_toArray, List.set_cons_zero, List.set_cons_succ]
      refine wpAnyH_take (i := 3) (oi := { dst := some 42, op := Op.load 29 (Operand.tmp 7), type := 29, pos := "law.go:107", after := #[], guard := none }) (v := .agg (adC a)) rfl (by as_aux_lemma => kernel_rfl) (by as_aux_lemma => kernel_rfl) (by as_aux_lemma => kernel_rfl) (fun _ _ _ h => h) (yieldsIf_load_A (by rfl) 29 (.tmp 7) rfl (gp) (0) rfl (adC a) _ (fun w hw => (HP.out w hw).1.range) und_addr rfl (by rw [info_addr, adC_size HA.out.1])) (by assumption) ?_
      simp only [Act.put, List.setIfInBounds_toArray, List.set_cons_zero, List.set_cons_succ]
      refine wpAnyH_take (i := 4) (oi := { dst := some 43, op := Op.load 29 (Operand.tmp 8), type := 29, pos := "law.go:107", after := #[], guard := none }) (v := .agg (adC b)) rfl (by as_aux_lemma => kernel_rfl) (by as_aux_lemma => kernel_rfl) (by as_aux_lemma => kernel_rfl) (fun _ _ _ h => h) (yieldsIf_load_A (by rfl) 29 (.tmp 8) rfl (gq) (0) rfl (adC b) _ (fun w hw => (HP.out w hw).2.1.range) und_addr rfl (by rw [info_addr, adC_size HA.out.2])) (by assumption) ?_
      simp only [Act.put, List.setIfInBounds_toArray, List.set_cons_zero, List.set_cons_succ]
      refine wpAnyH_ready (rs := [2]) (by as_aux_lemma => kernel_rfl) (by simp) ?_
      refine AllReadyH.cons (o := { dst := some 41, op := Op.call { callee := Callee.value (Operand.func 29), args := #[Operand.tmp 39, Operand.tmp 40], argTypes := #[29, 29] }, type := 3, pos := "law.go:107", after := #[{ on := 0, ground := Ground.data }, { on := 1, ground := Ground.data }], guard := none }) rfl (fun K hK => ?_) (by exact AllReadyH.nil)
      rw [if_pos (by rfl)]
      go_simp
      (go_at_call 29; refine (HO1.out _).mono ?_; rintro e z2 ⟨rfl, u2⟩)
      have HS2 := Lib.hid (show Below V3.heap.size V3 z2 from (hS7).trans (u2.mono (hS7).size))
      clear u2
      refine hK.out _ _ (by (try dsimp only); (first | exact HS77.out | exact HS73.out | exact HS70.out | exact HS69.out | exact HS67.out | exact HS61.out | exact HS60.out | exact HS55.out | exact HS53.out | exact HS48.out | exact HS46.out | exact HS11.out | exact HS9.out | exact HS5.out | exact HS2.out | exact hS7)) (fun hHeld => ?_)
      clear hK K
      simp only [List.setIfInBounds_toArray, List.set_cons_zero, List.set_cons_succ]
      refine wpAnyH_ready (rs := [5]) (by as_aux_lemma => kernel_rfl) (by simp) ?_
      refine AllReadyH.cons (o := { dst := some 44, op := Op.call { callee := Callee.value (Operand.func 30), args := #[Operand.tmp 42, Operand.tmp 43], argTypes := #[29, 29] }, type := 3, pos := "law.go:107", after := #[{ on := 3, ground := Ground.data }, { on := 4, ground := Ground.data }, { on := 2, ground := Ground.chain }], guard := none }) rfl (fun K hK => ?_) (by exact AllReadyH.nil)
      rw [if_pos (by rfl)]
      go_simp
      (go_at_call 30; refine (HO2.out _).mono ?_; rintro e z5 ⟨rfl, u5⟩)
      have HS5 := Lib.hid (show Below V3.heap.size V3 z5 from (HS2.out).trans (u5.mono (HS2.out).size))
      clear u5
      refine hK.out _ _ (by (try dsimp only); (first | exact HS77.out | exact HS73.out | exact HS70.out | exact HS69.out | exact HS67.out | exact HS61.out | exact HS60.out | exact HS55.out | exact HS53.out | exact HS48.out | exact HS46.out | exact HS11.out | exact HS9.out | exact HS5.out | exact HS2.out | exact hS7)) (fun hHeld => ?_)
      clear hK K
      simp only [List.setIfInBounds_toArray, List.set_cons_zero, List.set_cons_succ]
      refine wpAnyH_take (i := 6) (oi := { dst := some 45, op := Op.binOp BinOp.eql 3 (Operand.tmp 41) (Operand.tmp 44) 3, type := 4, pos := "law.go:107", after := #[{ on := 2, ground := Ground.data }, { on := 5, ground := Ground.data }], guard := none }) (v := ?vq6) rfl (by as_aux_lemma => kernel_rfl) (by as_aux_lemma => kernel_rfl) (by as_aux_lemma => kernel_rfl) (fun _ _ _ h => h) (Or.inl ⟨by rfl, ?yq6⟩) (by assumption) ?rq6
      case yq6 => (intro wS hSw; (try dsimp only at hSw); obtain ⟨_, _, _, _, _, kc0, kc1, kc2, kc3⟩ := HP.out wS hSw; go_simp <;> with_reducible rfl)
      simp only [Act.put, List.setIfInBounds_toArray, List.set_cons_zero, List.set_cons_succ]
      refine wpAnyH_take (i := 7) (oi := { dst := some 46, op := Op.move (Operand.tmp 45), type := 4, pos := "law.go:107", after := #[{ on := 6, ground := Ground.data }, { on := 5, ground := Ground.chain }], guard := none }) (v := ?vq7) rfl (by as_aux_lemma => kernel_rfl) (by as_aux_lemma => kernel_rfl) (by as_aux_lemma => kernel_rfl) (fun _ _ _ h => h) (Or.inl ⟨by rfl, ?yq7⟩) (by assumption) ?rq7
      case yq7 => (intro wS hSw; (try dsimp only at hSw); obtain ⟨_, _, _, _, _, kc0, kc1, kc2, kc3⟩ := HP.out wS hSw; go_simp <;> with_reducible rfl)
      simp only [Act.put, List.setIfInBounds_toArray, List.set_cons_zero, List.set_cons_succ]
      refine wpAnyH_take (i := 8) (oi := { dst := some 47, op := Op.load 29 (Operand.tmp 7), type := 29, pos := "law.go:107", after := #[{ on := 7, ground := Ground.guard }], guard := some (7, true) }) (v := .agg (adC a)) rfl (by as_aux_lemma => kernel_rfl) (by as_aux_lemma => kernel_rfl) (by as_aux_lemma => kernel_rfl) (fun _ _ _ h => h) (yieldsIf_load_A (by rfl) 29 (.tmp 7) rfl (gp) (0) rfl (adC a) _ (fun w hw => (HP.out w hw).1.range) und_addr rfl (by rw [info_addr, adC_size HA.out.1])) (by assumption) ?_
      simp only [Act.put, List.setIfInBounds_toArray, List.set_cons_zero, List.set_cons_succ]
      refine wpAnyH_take (i := 10) (oi := { dst := some 49, op := Op.load 29 (Operand.tmp 7), type := 29, pos := "law.go:107", after := #[{ on := 7, ground := Ground.guard }], guard := some (7, true) }) (v := .agg (adC a)) rfl (by as_aux_lemma => kernel_rfl) (by as_aux_lemma => kernel_rfl) (by as_aux_lemma => kernel_rfl) (fun _ _ _ h => h) (yieldsIf_load_A (by rfl) 29 (.tmp 7) rfl (gp) (0) rfl (adC a) _ (fun w hw => (HP.out w hw).1.range) und_addr rfl (by rw [info_addr, adC_size HA.out.1])) (by assumption) ?_
      simp only [Act.put, List.setIfInBounds_toArray, List.set_cons_zero, List.set_cons_succ]
      refine wpAnyH_ready (rs := [9]) (by as_aux_lemma => kernel_rfl) (by simp) ?_
      refine AllReadyH.cons (o := { dst := some 48, op := Op.call { callee := Callee.value (Operand.func 28), args := #[Operand.tmp 47], argTypes := #[29] }, type := 9, pos := "law.go:107", after := #[{ on := 8, ground := Ground.data }, { on := 7, ground := Ground.chain }, { on := 7, ground := Ground.guard }], guard := some (7, true) }) rfl (fun K hK => ?_) (by exact AllReadyH.nil)
      rw [if_pos (by rfl)]
      go_simp
      (go_at_call 28; refine (HN.out _).mono ?_; rintro e z9 ⟨rfl, u9⟩)
      have HS9 := Lib.hid (show Below V3.heap.size V3 z9 from (HS5.out).trans (u9.mono (HS5.out).size))
      clear u9
      refine hK.out _ _ (by (try dsimp only); (first | exact HS77.out | exact HS73.out | exact HS70.out | exact HS69.out | exact HS67.out | exact HS61.out | exact HS60.out | exact HS55.out | exact HS53.out | exact HS48.out | exact HS46.out | exact HS11.out | exact HS9.out | exact HS5.out | exact HS2.out | exact hS7)) (fun hHeld => ?_)
      clear hK K
      simp only [List.setIfInBounds_toArray, List.set_cons_zero, List.set_cons_succ]
      refine wpAnyH_ready (rs := [11]) (by as_aux_lemma => kernel_rfl) (by simp) ?_
      refine AllReadyH.cons (o := { dst := some 50, op := Op.call { callee := Callee.value (Operand.func 31), args := #[Operand.tmp 49], argTypes := #[29] }, type := 9, pos := "law.go:107", after := #[{ on := 10, ground := Ground.data }, { on := 9, ground := Ground.chain }, { on := 7, ground := Ground.guard }], guard := some (7, true) }) rfl (fun K hK => ?_) (by exact AllReadyH.nil)
      rw [if_pos (by rfl)]
      go_simp
      (go_at_call 31; refine (HR.out _).mono ?_; rintro e z11 ⟨rfl, u11⟩)
      have HS11 := Lib.hid (show Below V3.heap.size V3 z11 from (HS9.out).trans (u11.mono (HS9.out).size))
      clear u11
      refine hK.out _ _ (by (try dsimp only); (first | exact HS77.out | exact HS73.out | exact HS70.out | exact HS69.out | exact HS67.out | exact HS61.out | exact HS60.out | exact HS55.out | exact HS53.out | exact HS48.out | exact HS46.out | exact HS11.out | exact HS9.out | exact HS5.out | exact HS2.out | exact hS7)) (fun hHeld => ?_)
      clear hK K
      simp only [List.setIfInBounds_toArray, List.set_cons_zero, List.set_cons_succ]
      refine wpAnyH_take (i := 12) (oi := { dst := some 51, op := Op.binOp BinOp.eql 9 (Operand.tmp 48) (Operand.tmp 50) 9, type := 4, pos := "law.go:107", after := #[{ on := 9, ground := Ground.data }, { on := 11, ground := Ground.data }, { on := 7, ground := Ground.guard }], guard := some (7, true) }) (v := ?vq12) rfl (by as_aux_lemma => kernel_rfl) (by as_aux_lemma => kernel_rfl) (by as_aux_lemma => kernel_rfl) (fun _ _ _ h => h) (Or.inl ⟨by rfl, ?yq12⟩) (by assumption) ?rq12
      case yq12 => (intro wS hSw; (try dsimp only at hSw); obtain ⟨_, _, _, _, _, kc0, kc1, kc2, kc3⟩ := HP.out wS hSw; go_simp <;> with_reducible rfl)
      simp only [Act.put, List.setIfInBounds_toArray, List.set_cons_zero, List.set_cons_succ]
      refine wpAnyH_take (i := 13) (oi := { dst := some 52, op := Op.pick (Operand.tmp 46) (Operand.tmp 51) (Operand.const (Value.bool false)), type := 4, pos := "law.go:107", after := #[{ on := 7, ground := Ground.data }, { on := 12, ground := Ground.data }], guard := none }) (v := ?vq13) rfl (by as_aux_lemma => kernel_rfl) (by as_aux_lemma => kernel_rfl) (by as_aux_lemma => kernel_rfl) (fun _ _ _ h => h) (Or.inl ⟨by rfl, ?yq13⟩) (by assumption) ?rq13
      case yq13 => (intro wS hSw; (try dsimp only at hSw); obtain ⟨_, _, _, _, _, kc0, kc1, kc2, kc3⟩ := HP.out wS hSw; go_simp <;> with_reducible rfl)
      simp only [Act.put, List.setIfInBounds_toArray, List.set_cons_zero, List.set_cons_succ]
      refine wpAnyH_take (i := 14) (oi := { dst := some 53, op := Op.move (Operand.tmp 52), type := 4, pos := "law.go:107", after := #[{ on := 13, ground := Ground.data }, { on := 11, ground := Ground.chain }], guard := none }) (v := ?vq14) rfl (by as_aux_lemma => kernel_rfl) (by as_aux_lemma => kernel_rfl) (by as_aux_lemma => kernel_rfl) (fun _ _ _ h => h) (Or.inl ⟨by rfl, ?yq14⟩) (by assumption) ?rq14
      case yq14 => (intro wS hSw; (try dsimp only at hSw); obtain ⟨_, _, _, _, _, kc0, kc1, kc2, kc3⟩ := HP.out wS hSw; go_simp <;> with_reducible rfl)
      simp only [Act.put, List.setIfInBounds_toArray, List.set_cons_zero, List.set_cons_succ]
      refine wpAnyH_take (i := 15) (oi := { dst := some 54, op := Op.load 29 (Operand.tmp 9), type := 29, pos := "law.go:107", after := #[{ on := 14, ground := Ground.guard }], guard := some (14, true) }) (v := .agg (adC A)) rfl (by as_aux_lemma => kernel_rfl) (by as_aux_lemma => kernel_rfl) (by as_aux_lemma => kernel_rfl) (fun _ _ _ h => h) (yieldsIf_load_A (by rfl) 29 (.tmp 9) rfl (p1) (0) rfl (adC A) _ (fun w hw => (HP.out w hw).2.2.1.range) und_addr rfl (by rw [info_addr, adC_size HAA.out.1])) (by assumption) ?_
      simp only [Act.put, List.setIfInBounds_toArray, List.set_cons_zero, List.set_cons_succ]
      refine wpAnyH_take (i := 16) (oi := { dst := some 55, op := Op.load 29 (Operand.tmp 11), type := 29, pos := "law.go:107", after := #[{ on := 14, ground := Ground.guard }], guard := some (14, true) }) (v := .agg (adC A)) rfl (by as_aux_lemma => kernel_rfl) (by as_aux_lemma => kernel_rfl) (by as_aux_lemma => kernel_rfl) (fun _ _ _ h => h) (yieldsIf_load_A (by rfl) 29 (.tmp 11) rfl (p2) (0) rfl (adC A) _ (fun w hw => (HP.out w hw).2.2.2.1.range) und_addr rfl (by rw [info_addr, adC_size HAA.out.1])) (by assumption) ?_
      simp only [Act.put, List.setIfInBounds_toArray, List.set_cons_zero, List.set_cons_succ]
      refine wpAnyH_take (i := 17) (oi := { dst := some 56, op := Op.binOp BinOp.eql 29 (Operand.tmp 54) (Operand.tmp 55) 29, type := 4, pos := "law.go:107", after := #[{ on := 15, ground := Ground.data }, { on := 16, ground := Ground.data }, { on := 14, ground := Ground.guard }], guard := some (14, true) }) (v := ?vq17) rfl (by as_aux_lemma => kernel_rfl) (by as_aux_lemma => kernel_rfl) (by as_aux_lemma => kernel_rfl) (fun _ _ _ h => h) (Or.inl ⟨by rfl, ?yq17⟩) (by assumption) ?rq17
      case yq17 => (intro wS hSw; (try dsimp only at hSw); obtain ⟨_, _, _, _, _, kc0, kc1, kc2, kc3⟩ := HP.out wS hSw; go_simp <;> with_reducible rfl)
      simp only [Act.put, List.setIfInBounds_toArray, List.set_cons_zero, List.set_cons_succ]
      refine wpAnyH_take (i := 18) (oi := { dst := some 57, op := Op.pick (Operand.tmp 53) (Operand.tmp 56) (Operand.const (Value.bool false)), type := 4, pos := "law.go:107", after := #[{ on := 14, ground := Ground.data }, { on := 17, ground := Ground.data }], guard := none }) (v := ?vq18) rfl (by as_aux_lemma => kernel_rfl) (by as_aux_lemma => kernel_rfl) (by as_aux_lemma => kernel_rfl) (fun _ _ _ h => h) (Or.inl ⟨by rfl, ?yq18⟩) (by assumption) ?rq18
      case yq18 => (intro wS hSw; (try dsimp only at hSw); obtain ⟨_, _, _, _, _, kc0, kc1, kc2, kc3⟩ := HP.out wS hSw; go_simp <;> with_reducible rfl)
      simp only [Act.put, List.setIfInBounds_toArray, List.set_cons_zero, List.set_cons_succ]
      refine wpAnyH_take (i := 19) (oi := { dst := some 58, op := Op.move (Operand.tmp 57), type := 4, pos := "law.go:107", after := #[{ on := 18, ground := Ground.data }, { on := 14, ground := Ground.chain }], guard := none }) (v := ?vq19) rfl (by as_aux_lemma => kernel_rfl) (by as_aux_lemma => kernel_rfl) (by as_aux_lemma => kernel_rfl) (fun _ _ _ h => h) (Or.inl ⟨by rfl, ?yq19⟩) (by assumption) ?rq19
      case yq19 => (intro wS hSw; (try dsimp only at hSw); obtain ⟨_, _, _, _, _, kc0, kc1, kc2, kc3⟩ := HP.out wS hSw; go_simp <;> with_reducible rfl)
      simp only [Act.put, List.setIfInBounds_toArray, List.set_cons_zero, List.set_cons_succ]
      refine wpAnyH_take (i := 20) (oi := { dst := some 59, op := Op.move (Operand.tmp 10), type := 36, pos := "law.go:107", after := #[{ on := 19, ground := Ground.guard }], guard := some (19, true) }) (v := ?vq20) rfl (by as_aux_lemma => kernel_rfl) (by as_aux_lemma => kernel_rfl) (by as_aux_lemma => kernel_rfl) (fun _ _ _ h => h) (Or.inl ⟨by rfl, ?yq20⟩) (by assumption) ?rq20
      case yq20 => (intro wS hSw; (try dsimp only at hSw); obtain ⟨_, _, _, _, _, kc0, kc1, kc2, kc3⟩ := HP.out wS hSw; go_simp <;> with_reducible rfl)
      simp only [Act.put, List.setIfInBounds_toArray, List.set_cons_zero, List.set_cons_succ]
      refine wpAnyH_take (i := 23) (oi := { dst := some 62, op := Op.move (Operand.tmp 12), type := 4, pos := "law.go:107", after := #[{ on := 19, ground := Ground.guard }], guard := some (19, true) }) (v := ?vq21) rfl (by as_aux_lemma => kernel_rfl) (by as_aux_lemma => kernel_rfl) (by as_aux_lemma => kernel_rfl) (fun _ _ _ h => h) (Or.inl ⟨by rfl, ?yq21⟩) (by assumption) ?rq21
      case yq21 => (intro wS hSw; (try dsimp only at hSw); obtain ⟨_, _, _, _, _, kc0, kc1, kc2, kc3⟩ := HP.out wS hSw; go_simp <;> with_reducible rfl)
      simp only [Act.put, List.setIfInBounds_toArray, List.set_cons_zero, List.set_cons_succ]
      refine wpAnyH_ready (rs := [21]) (by as_aux_lemma => kernel_rfl) (by simp) ?_
      refine AllReadyH.cons (o := { dst := some 60, op := Op.call { callee := Callee.value (Operand.func 13), args := #[Operand.tmp 59], argTypes := #[36] }, type := 3, pos := "law.go:107", after := #[{ on := 20, ground := Ground.data }, { on := 19, ground := Ground.chain }, { on := 19, ground := Ground.guard }], guard := some (19, true) }) rfl (fun K hK => ?_) (by exact AllReadyH.nil)
      rw [if_pos (by rfl)]
      go_simp
      (go_at_call 13; refine (num_any9 _ _).mono ?_; rintro e w8 ⟨rfl, rfl⟩)
      refine hK.out _ _ (by (try dsimp only); (first | exact HS77.out | exact HS73.out | exact HS70.out | exact HS69.out | exact HS67.out | exact HS61.out | exact HS60.out | exact HS55.out | exact HS53.out | exact HS48.out | exact HS46.out | exact HS11.out | exact HS9.out | exact HS5.out | exact HS2.out | exact hS7)) (fun hHeld => ?_)
      clear hK K
      simp only [List.setIfInBounds_toArray, List.set_cons_zero, List.set_cons_succ]
      refine wpAnyH_take (i := 22) (oi := { dst := some 61, op := Op.binOp BinOp.eql 3 (Operand.tmp 60) (Operand.const (Value.int IntKind.i64 0)) 3, type := 4, pos := "law.go:107", after := #[{ on := 21, ground := Ground.data }, { on := 19, ground := Ground.guard }], guard := some (19, true) }) (v := ?vq23) rfl (by as_aux_lemma => kernel_rfl) (by as_aux_lemma => kernel_rfl) (by as_aux_lemma => kernel_rfl) (fun _ _ _ h => h) (Or.inl ⟨by rfl, ?yq23⟩) (by assumption) ?rq23
      case yq23 => (intro wS hSw; (try dsimp only at hSw); obtain ⟨_, _, _, _, _, kc0, kc1, kc2, kc3⟩ := HP.out wS hSw; go_simp <;> with_reducible rfl)
      simp only [Act.put, List.setIfInBounds_toArray, List.set_cons_zero, List.set_cons_succ]
      refine wpAnyH_take (i := 24) (oi := { dst := some 63, op := Op.binOp BinOp.eql 4 (Operand.tmp 61) (Operand.tmp 62) 4, type := 4, pos := "law.go:107", after := #[{ on := 22, ground := Ground.data }, { on := 23, ground := Ground.data }, { on := 19, ground := Ground.guard }], guard := some (19, true) }) (v := ?vq24) rfl (by as_aux_lemma => kernel_rfl) (by as_aux_lemma => kernel_rfl) (by as_aux_lemma => kernel_rfl) (fun _ _ _ h => h) (Or.inl ⟨by rfl, ?yq24⟩) (by assumption) ?rq24
      case yq24 => (intro wS hSw; (try dsimp only at hSw); obtain ⟨_, _, _, _, _, kc0, kc1, kc2, kc3⟩ := HP.out wS hSw; go_simp <;> with_reducible rfl)
      simp only [Act.put, List.setIfInBounds_toArray, List.set_cons_zero, List.set_cons_succ]
      refine wpAnyH_take (i := 25) (oi := { dst := some 64, op := Op.pick (Operand.tmp 58) (Operand.tmp 63) (Operand.const (Value.bool false)), type := 4, pos := "law.go:107", after := #[{ on := 19, ground := Ground.data }, { on := 24, ground := Ground.data }], guard := none }) (v := ?vq25) rfl (by as_aux_lemma => kernel_rfl) (by as_aux_lemma => kernel_rfl) (by as_aux_lemma => kernel_rfl) (fun _ _ _ h => h) (Or.inl ⟨by rfl, ?yq25⟩) (by assumption) ?rq25
      case yq25 => (intro wS hSw; (try dsimp only at hSw); obtain ⟨_, _, _, _, _, kc0, kc1, kc2, kc3⟩ := HP.out wS hSw; go_simp <;> with_reducible rfl)
      simp only [Act.put, List.setIfInBounds_toArray, List.set_cons_zero, List.set_cons_succ]
      refine wpAnyH_take (i := 26) (oi := { dst := some 65, op := Op.move (Operand.tmp 64), type := 4, pos := "law.go:107", after := #[{ on := 25, ground := Ground.data }, { on := 21, ground := Ground.chain }], guard := none }) (v := ?vq26) rfl (by as_aux_lemma => kernel_rfl) (by as_aux_lemma => kernel_rfl) (by as_aux_lemma => kernel_rfl) (fun _ _ _ h => h) (Or.inl ⟨by rfl, ?yq26⟩) (by assumption) ?rq26
      case yq26 => (intro wS hSw; (try dsimp only at hSw); obtain ⟨_, _, _, _, _, kc0, kc1, kc2, kc3⟩ := HP.out wS hSw; go_simp <;> with_reducible rfl)
      simp only [Act.put, List.setIfInBounds_toArray, List.set_cons_zero, List.set_cons_succ]
      refine wpAnyH_take (i := 27) (oi := { dst := some 66, op := Op.move (Operand.tmp 12), type := 4, pos := "law.go:107", after := #[{ on := 26, ground := Ground.guard }], guard := some (26, true) }) (v := ?vq27) rfl (by as_aux_lemma => kernel_rfl) (by as_aux_lemma => kernel_rfl) (by as_aux_lemma => kernel_rfl) (fun _ _ _ h => h) (Or.inl ⟨by rfl, ?yq27⟩) (by assumption) ?rq27
      case yq27 => (intro wS hSw; (try dsimp only at hSw); obtain ⟨_, _, _, _, _, kc0, kc1, kc2, kc3⟩ := HP.out wS hSw; go_simp <;> with_reducible rfl)
      simp only [Act.put, List.setIfInBounds_toArray, List.set_cons_zero, List.set_cons_succ]
      refine wpAnyH_take (i := 28) (oi := { dst := some 67, op := Op.move (Operand.tmp 66), type := 4, pos := "law.go:107", after := #[{ on := 27, ground := Ground.data }, { on := 26, ground := Ground.chain }, { on := 26, ground := Ground.guard }], guard := some (26, true) }) (v := ?vq28) rfl (by as_aux_lemma => kernel_rfl) (by as_aux_lemma => kernel_rfl) (by as_aux_lemma => kernel_rfl) (fun _ _ _ h => h) (Or.inl ⟨by rfl, ?yq28⟩) (by assumption) ?rq28
      case yq28 => (intro wS hSw; (try dsimp only at hSw); obtain ⟨_, _, _, _, _, kc0, kc1, kc2, kc3⟩ := HP.out wS hSw; go_simp <;> with_reducible rfl)
      simp only [Act.put, List.setIfInBounds_toArray, List.set_cons_zero, List.set_cons_succ]
      refine wpAnyH_take (i := 29) (oi := { dst := some 68, op := Op.move (Operand.tmp 10), type := 36, pos := "law.go:107", after := #[{ on := 28, ground := Ground.guard }], guard := some (28, false) }) (v := undef) rfl (by as_aux_lemma => kernel_rfl) (by as_aux_lemma => kernel_rfl) (by as_aux_lemma => kernel_rfl) (fun _ _ _ h => h) (Or.inr ⟨by rfl, rfl⟩) (by assumption) ?_
      simp only [Act.put, List.setIfInBounds_toArray, List.set_cons_zero, List.set_cons_succ]
      refine wpAnyH_take (i := 30) (oi := { dst := some 69, op := Op.call { callee := Callee.value (Operand.func 13), args := #[Operand.tmp 68], argTypes := #[36] }, type := 3, pos := "law.go:107", after := #[{ on := 29, ground := Ground.data }, { on := 28, ground := Ground.chain }, { on := 28, ground := Ground.guard }], guard := some (28, false) }) (v := undef) rfl (by as_aux_lemma => kernel_rfl) (by as_aux_lemma => kernel_rfl) (by as_aux_lemma => kernel_rfl) (fun _ _ _ h => h) (Or.inr ⟨by rfl, rfl⟩) (by assumption) ?_
      simp only [Act.put, List.setIfInBounds_toArray, List.set_cons_zero, List.set_cons_succ]
      refine wpAnyH_take (i := 31) (oi := { dst := some 70, op := Op.binOp BinOp.eql 3 (Operand.tmp 69) (Operand.const (Value.int IntKind.i64 190)) 3, type := 4, pos := "law.go:107", after := #[{ on := 30, ground := Ground.data }, { on := 28, ground := Ground.guard }], guard := some (28, false) }) (v := undef) rfl (by as_aux_lemma => kernel_rfl) (by as_aux_lemma => kernel_rfl) (by as_aux_lemma => kernel_rfl) (fun _ _ _ h => h) (Or.inr ⟨by rfl, rfl⟩) (by assumption) ?_
      simp only [Act.put, List.setIfInBounds_toArray, List.set_cons_zero, List.set_cons_succ]
      refine wpAnyH_take (i := 32) (oi := { dst := some 71, op := Op.pick (Operand.tmp 67) (Operand.const (Value.bool true)) (Operand.tmp 70), type := 4, pos := "law.go:107", after := #[{ on := 28, ground := Ground.data }, { on := 31, ground := Ground.data }, { on := 26, ground := Ground.guard }], guard := some (26, true) }) (v := ?vq32) rfl (by as_aux_lemma => kernel_rfl) (by as_aux_lemma => kernel_rfl) (by as_aux_lemma => kernel_rfl) (fun _ _ _ h => h) (Or.inl ⟨by rfl, ?yq32⟩) (by assumption) ?rq32
      case yq32 => (intro wS hSw; (try dsimp only at hSw); obtain ⟨_, _, _, _, _, kc0, kc1, kc2, kc3⟩ := HP.out wS hSw; go_simp <;> with_reducible rfl)
      simp only [Act.put, List.setIfInBounds_toArray, List.set_cons_zero, List.set_cons_succ]
      refine wpAnyH_take (i := 33) (oi := { dst := some 72, op := Op.pick (Operand.tmp 65) (Operand.tmp 71) (Operand.const (Value.bool false)), type := 4, pos := "law.go:107", after := #[{ on := 26, ground := Ground.data }, { on := 32, ground := Ground.data }], guard := none }) (v := ?vq33) rfl (by as_aux_lemma => kernel_rfl) (by as_aux_lemma => kernel_rfl) (by as_aux_lemma => kernel_rfl) (fun _ _ _ h => h) (Or.inl ⟨by rfl, ?yq33⟩) (by assumption) ?rq33
      case yq33 => (intro wS hSw; (try dsimp only at hSw); obtain ⟨_, _, _, _, _, kc0, kc1, kc2, kc3⟩ := HP.out wS hSw; go_simp <;> with_reducible rfl)
      simp only [Act.put, List.setIfInBounds_toArray, List.set_cons_zero, List.set_cons_succ]
      refine wpAnyH_take (i := 34) (oi := { dst := some 73, op := Op.move (Operand.tmp 72), type := 4, pos := "law.go:107", after := #[{ on := 33, ground := Ground.data }, { on := 30, ground := Ground.chain }], guard := none }) (v := ?vq34) rfl (by as_aux_lemma => kernel_rfl) (by as_aux_lemma => kernel_rfl) (by as_aux_lemma => kernel_rfl) (fun _ _ _ h => h) (Or.inl ⟨by rfl, ?yq34⟩) (by assumption) ?rq34
      case yq34 => (intro wS hSw; (try dsimp only at hSw); obtain ⟨_, _, _, _, _, kc0, kc1, kc2, kc3⟩ := HP.out wS hSw; go_simp <;> with_reducible rfl)
      simp only [Act.put, List.setIfInBounds_toArray, List.set_cons_zero, List.set_cons_succ]
      refine wpAnyH_take (i := 35) (oi := { dst := some 74, op := Op.load 29 (Operand.tmp 13), type := 29, pos := "law.go:107", after := #[{ on := 34, ground := Ground.guard }], guard := some (34, true) }) (v := .agg (adC a)) rfl (by as_aux_lemma => kernel_rfl) (by as_aux_lemma => kernel_rfl) (by as_aux_lemma => kernel_rfl) (fun _ _ _ h => h) (yieldsIf_load_A (by rfl) 29 (.tmp 13) rfl (p3) (0) rfl (adC a) _ (fun w hw => (HP.out w hw).2.2.2.2.1.range) und_addr rfl (by rw [info_addr, adC_size HA.out.1])) (by assumption) ?_
      simp only [Act.put, List.setIfInBounds_toArray, List.set_cons_zero, List.set_cons_succ]
      refine wpAnyH_take (i := 36) (oi := { dst := some 75, op := Op.load 29 (Operand.tmp 7), type := 29, pos := "law.go:107", after := #[{ on := 34, ground := Ground.guard }], guard := some (34, true) }) (v := .agg (adC a)) rfl (by as_aux_lemma => kernel_rfl) (by as_aux_lemma => kernel_rfl) (by as_aux_lemma => kernel_rfl) (fun _ _ _ h => h) (yieldsIf_load_A (by rfl) 29 (.tmp 7) rfl (gp) (0) rfl (adC a) _ (fun w hw => (HP.out w hw).1.range) und_addr rfl (by rw [info_addr, adC_size HA.out.1])) (by assumption) ?_
      simp only [Act.put, List.setIfInBounds_toArray, List.set_cons_zero, List.set_cons_succ]
      refine wpAnyH_take (i := 37) (oi := { dst := some 76, op := Op.binOp BinOp.eql 29 (Operand.tmp 74) (Operand.tmp 75) 29, type := 4, pos := "law.go:107", after := #[{ on := 35, ground := Ground.data }, { on := 36, ground := Ground.data }, { on := 34, ground := Ground.guard }], guard := some (34, true) }) (v := ?vq37) rfl (by as_aux_lemma => kernel_rfl) (by as_aux_lemma => kernel_rfl) (by as_aux_lemma => kernel_rfl) (fun _ _ _ h => h) (Or.inl ⟨by rfl, ?yq37⟩) (by assumption) ?rq37
      case yq37 => (intro wS hSw; (try dsimp only at hSw); obtain ⟨_, _, _, _, _, kc0, kc1, kc2, kc3⟩ := HP.out wS hSw; go_simp <;> with_reducible rfl)
      simp only [Act.put, List.setIfInBounds_toArray, List.set_cons_zero, List.set_cons_succ]
      refine wpAnyH_take (i := 38) (oi := { dst := some 77, op := Op.pick (Operand.tmp 73) (Operand.tmp 76) (Operand.const (Value.bool false)), type := 4, pos := "law.go:107", after := #[{ on := 34, ground := Ground.data }, { on := 37, ground := Ground.data }], guard := none }) (v := ?vq38) rfl (by as_aux_lemma => kernel_rfl) (by as_aux_lemma => kernel_rfl) (by as_aux_lemma => kernel_rfl) (fun _ _ _ h => h) (Or.inl ⟨by rfl, ?yq38⟩) (by assumption) ?rq38
      case yq38 => (intro wS hSw; (try dsimp only at hSw); obtain ⟨_, _, _, _, _, kc0, kc1, kc2, kc3⟩ := HP.out wS hSw; go_simp <;> with_reducible rfl)
      simp only [Act.put, List.setIfInBounds_toArray, List.set_cons_zero, List.set_cons_succ]
      refine wpAnyH_take (i := 39) (oi := { dst := some 78, op := Op.move (Operand.tmp 77), type := 4, pos := "law.go:107", after := #[{ on := 38, ground := Ground.data }, { on := 34, ground := Ground.chain }], guard := none }) (v := ?vq39) rfl (by as_aux_lemma => kernel_rfl) (by as_aux_lemma => kernel_rfl) (by as_aux_lemma => kernel_rfl) (fun _ _ _ h => h) (Or.inl ⟨by rfl, ?yq39⟩) (by assumption) ?rq39
      case yq39 => (intro wS hSw; (try dsimp only at hSw); obtain ⟨_, _, _, _, _, kc0, kc1, kc2, kc3⟩ := HP.out wS hSw; go_simp <;> with_reducible rfl)
      simp only [Act.put, List.setIfInBounds_toArray, List.set_cons_zero, List.set_cons_succ]
      refine wpAnyH_take (i := 40) (oi := { dst := some 79, op := Op.move (Operand.tmp 14), type := 36, pos := "law.go:107", after := #[{ on := 39, ground := Ground.guard }], guard := some (39, true) }) (v := ?vq40) rfl (by as_aux_lemma => kernel_rfl) (by as_aux_lemma => kernel_rfl) (by as_aux_lemma => kernel_rfl) (fun _ _ _ h => h) (Or.inl ⟨by rfl, ?yq40⟩) (by assumption) ?rq40
      case yq40 => (intro wS hSw; (try dsimp only at hSw); obtain ⟨_, _, _, _, _, kc0, kc1, kc2, kc3⟩ := HP.out wS hSw; go_simp <;> with_reducible rfl)
      simp only [Act.put, List.setIfInBounds_toArray, List.set_cons_zero, List.set_cons_succ]
      refine wpAnyH_ready (rs := [41]) (by as_aux_lemma => kernel_rfl) (by simp) ?_
      refine AllReadyH.cons (o := { dst := some 80, op := Op.call { callee := Callee.value (Operand.func 13), args := #[Operand.tmp 79], argTypes := #[36] }, type := 3, pos := "law.go:107", after := #[{ on := 40, ground := Ground.data }, { on := 39, ground := Ground.chain }, { on := 39, ground := Ground.guard }], guard := some (39, true) }) rfl (fun K hK => ?_) (by exact AllReadyH.nil)
      rw [if_pos (by rfl)]
      go_simp
      (go_at_call 13; refine (num_any9 _ _).mono ?_; rintro e w8 ⟨rfl, rfl⟩)
      refine hK.out _ _ (by (try dsimp only); (first | exact HS77.out | exact HS73.out | exact HS70.out | exact HS69.out | exact HS67.out | exact HS61.out | exact HS60.out | exact HS55.out | exact HS53.out | exact HS48.out | exact HS46.out | exact HS11.out | exact HS9.out | exact HS5.out | exact HS2.out | exact hS7)) (fun hHeld => ?_)
      clear hK K
      simp only [List.setIfInBounds_toArray, List.set_cons_zero, List.set_cons_succ]
      refine wpAnyH_take (i := 42) (oi := { dst := some 81, op := Op.binOp BinOp.eql 3 (Operand.tmp 80) (Operand.const (Value.int IntKind.i64 0)) 3, type := 4, pos := "law.go:107", after := #[{ on := 41, ground := Ground.data }, { on := 39, ground := Ground.guard }], guard := some (39, true) }) (v := ?vq42) rfl (by as_aux_lemma => kernel_rfl) (by as_aux_lemma => kernel_rfl) (by as_aux_lemma => kernel_rfl) (fun _ _ _ h => h) (Or.inl ⟨by rfl, ?yq42⟩) (by assumption) ?rq42
      case yq42 => (intro wS hSw; (try dsimp only at hSw); obtain ⟨_, _, _, _, _, kc0, kc1, kc2, kc3⟩ := HP.out wS hSw; go_simp <;> with_reducible rfl)
      simp only [Act.put, List.setIfInBounds_toArray, List.set_cons_zero, List.set_cons_succ]
      refine wpAnyH_take (i := 43) (oi := { dst := some 82, op := Op.pick (Operand.tmp 78) (Operand.tmp 81) (Operand.const (Value.bool false)), type := 4, pos := "law.go:107", after := #[{ on := 39, ground := Ground.data }, { on := 42, ground := Ground.data }], guard := none }) (v := ?vq43) rfl (by as_aux_lemma => kernel_rfl) (by as_aux_lemma => kernel_rfl) (by as_aux_lemma => kernel_rfl) (fun _ _ _ h => h) (Or.inl ⟨by rfl, ?yq43⟩) (by assumption) ?rq43
      case yq43 => (intro wS hSw; (try dsimp only at hSw); obtain ⟨_, _, _, _, _, kc0, kc1, kc2, kc3⟩ := HP.out wS hSw; go_simp <;> with_reducible rfl)
      simp only [Act.put, List.setIfInBounds_toArray, List.set_cons_zero, List.set_cons_succ]
      refine wpAnyH_take (i := 44) (oi := { dst := some 83, op := Op.move (Operand.tmp 82), type := 4, pos := "law.go:107", after := #[{ on := 43, ground := Ground.data }, { on := 41, ground := Ground.chain }], guard := none }) (v := ?vq44) rfl (by as_aux_lemma => kernel_rfl) (by as_aux_lemma => kernel_rfl) (by as_aux_lemma => kernel_rfl) (fun _ _ _ h => h) (Or.inl ⟨by rfl, ?yq44⟩) (by assumption) ?rq44
      case yq44 => (intro wS hSw; (try dsimp only at hSw); obtain ⟨_, _, _, _, _, kc0, kc1, kc2, kc3⟩ := HP.out wS hSw; go_simp <;> with_reducible rfl)
      simp only [Act.put, List.setIfInBounds_toArray, List.set_cons_zero, List.set_cons_succ]
      refine wpAnyH_take (i := 45) (oi := { dst := some 84, op := Op.load 29 (Operand.tmp 7), type := 29, pos := "law.go:107", after := #[{ on := 44, ground := Ground.guard }], guard := some (44, true) }) (v := .agg (adC a)) rfl (by as_aux_lemma => kernel_rfl) (by as_aux_lemma => kernel_rfl) (by as_aux_lemma => kernel_rfl) (fun _ _ _ h => h) (yieldsIf_load_A (by rfl) 29 (.tmp 7) rfl (gp) (0) rfl (adC a) _ (fun w hw => (HP.out w hw).1.range) und_addr rfl (by rw [info_addr, adC_size HA.out.1])) (by assumption) ?_
      simp only [Act.put, List.setIfInBounds_toArray, List.set_cons_zero, List.set_cons_succ]
      refine wpAnyH_take (i := 47) (oi := { dst := some 86, op := Op.load 29 (Operand.tmp 7), type := 29, pos := "law.go:107", after := #[{ on := 44, ground := Ground.guard }], guard := some (44, true) }) (v := .agg (adC a)) rfl (by as_aux_lemma => kernel_rfl) (by as_aux_lemma => kernel_rfl) (by as_aux_lemma => kernel_rfl) (fun _ _ _ h => h) (yieldsIf_load_A (by rfl) 29 (.tmp 7) rfl (gp) (0) rfl (adC a) _ (fun w hw => (HP.out w hw).1.range) und_addr rfl (by rw [info_addr, adC_size HA.out.1])) (by assumption) ?_
      simp only [Act.put, List.setIfInBounds_toArray, List.set_cons_zero, List.set_cons_succ]
      refine wpAnyH_ready (rs := [46]) (by as_aux_lemma => kernel_rfl) (by simp) ?_
      refine AllReadyH.cons (o := { dst := some 85, op := Op.call { callee := Callee.value (Operand.func 32), args := #[Operand.tmp 84], argTypes := #[29] }, type := 58, pos := "law.go:107", after := #[{ on := 45, ground := Ground.data }, { on := 44, ground := Ground.chain }, { on := 44, ground := Ground.guard }], guard := some (44, true) }) rfl (fun K hK => ?_) (by exact AllReadyH.nil)
      rw [if_pos (by rfl)]
      go_simp
      (go_at_call 32; refine (HWa.out _).mono ?_; rintro e z46 ⟨rfl, u46⟩)
      have HS46 := Lib.hid (show Below V3.heap.size V3 z46 from (HS11.out).trans (u46.mono (HS11.out).size))
      clear u46
      refine hK.out _ _ (by (try dsimp only); (first | exact HS77.out | exact HS73.out | exact HS70.out | exact HS69.out | exact HS67.out | exact HS61.out | exact HS60.out | exact HS55.out | exact HS53.out | exact HS48.out | exact HS46.out | exact HS11.out | exact HS9.out | exact HS5.out | exact HS2.out | exact hS7)) (fun hHeld => ?_)
      clear hK K
      simp only [List.setIfInBounds_toArray, List.set_cons_zero, List.set_cons_succ]
      refine wpAnyH_ready (rs := [48]) (by as_aux_lemma => kernel_rfl) (by simp) ?_
      refine AllReadyH.cons (o := { dst := some 87, op := Op.call { callee := Callee.value (Operand.func 33), args := #[Operand.tmp 86], argTypes := #[29] }, type := 58, pos := "law.go:107", after := #[{ on := 47, ground := Ground.data }, { on := 46, ground := Ground.chain }, { on := 44, ground := Ground.guard }], guard := some (44, true) }) rfl (fun K hK => ?_) (by exact AllReadyH.nil)
      rw [if_pos (by rfl)]
      go_simp
      (go_at_call 33; refine (HRW.out _).mono ?_; rintro e z48 ⟨rfl, u48⟩)
      have HS48 := Lib.hid (show Below V3.heap.size V3 z48 from (HS46.out).trans (u48.mono (HS46.out).size))
      clear u48
      refine hK.out _ _ (by (try dsimp only); (first | exact HS77.out | exact HS73.out | exact HS70.out | exact HS69.out | exact HS67.out | exact HS61.out | exact HS60.out | exact HS55.out | exact HS53.out | exact HS48.out | exact HS46.out | exact HS11.out | exact HS9.out | exact HS5.out | exact HS2.out | exact hS7)) (fun hHeld => ?_)
      clear hK K
      simp only [List.setIfInBounds_toArray, List.set_cons_zero, List.set_cons_succ]
      refine wpAnyH_take (i := 49) (oi := { dst := some 88, op := Op.binOp BinOp.eql 58 (Operand.tmp 85) (Operand.tmp 87) 58, type := 4, pos := "law.go:107", after := #[{ on := 46, ground := Ground.data }, { on := 48, ground := Ground.data }, { on := 44, ground := Ground.guard }], guard := some (44, true) }) (v := ?vq49) rfl (by as_aux_lemma => kernel_rfl) (by as_aux_lemma => kernel_rfl) (by as_aux_lemma => kernel_rfl) (fun _ _ _ h => h) (Or.inl ⟨by rfl, ?yq49⟩) (by assumption) ?rq49
      case yq49 => (intro wS hSw; (try dsimp only at hSw); obtain ⟨_, _, _, _, _, kc0, kc1, kc2, kc3⟩ := HP.out wS hSw; go_simp <;> with_reducible rfl)
      simp only [Act.put, List.setIfInBounds_toArray, List.set_cons_zero, List.set_cons_succ]
      refine wpAnyH_take (i := 50) (oi := { dst := some 89, op := Op.pick (Operand.tmp 83) (Operand.tmp 88) (Operand.const (Value.bool false)), type := 4, pos := "law.go:107", after := #[{ on := 44, ground := Ground.data }, { on := 49, ground := Ground.data }], guard := none }) (v := ?vq50) rfl (by as_aux_lemma => kernel_rfl) (by as_aux_lemma => kernel_rfl) (by as_aux_lemma => kernel_rfl) (fun _ _ _ h => h) (Or.inl ⟨by rfl, ?yq50⟩) (by assumption) ?rq50
      case yq50 => (intro wS hSw; (try dsimp only at hSw); obtain ⟨_, _, _, _, _, kc0, kc1, kc2, kc3⟩ := HP.out wS hSw; go_simp <;> with_reducible rfl)
      simp only [Act.put, List.setIfInBounds_toArray, List.set_cons_zero, List.set_cons_succ]
      refine wpAnyH_take (i := 51) (oi := { dst := some 90, op := Op.move (Operand.tmp 89), type := 4, pos := "law.go:107", after := #[{ on := 50, ground := Ground.data }, { on := 48, ground := Ground.chain }], guard := none }) (v := ?vq51) rfl (by as_aux_lemma => kernel_rfl) (by as_aux_lemma => kernel_rfl) (by as_aux_lemma => kernel_rfl) (fun _ _ _ h => h) (Or.inl ⟨by rfl, ?yq51⟩) (by assumption) ?rq51
      case yq51 => (intro wS hSw; (try dsimp only at hSw); obtain ⟨_, _, _, _, _, kc0, kc1, kc2, kc3⟩ := HP.out wS hSw; go_simp <;> with_reducible rfl)
      simp only [Act.put, List.setIfInBounds_toArray, List.set_cons_zero, List.set_cons_succ]
      refine wpAnyH_take (i := 52) (oi := { dst := some 91, op := Op.load 58 (Operand.tmp 5), type := 58, pos := "law.go:107", after := #[{ on := 51, ground := Ground.guard }], guard := some (51, true) }) (v := ?vq52) rfl (by as_aux_lemma => kernel_rfl) (by as_aux_lemma => kernel_rfl) (by as_aux_lemma => kernel_rfl) (fun _ _ _ h => h) (Or.inl ⟨by rfl, ?yq52⟩) (by assumption) ?rq52
      case yq52 => (intro wS hSw; (try dsimp only at hSw); obtain ⟨_, _, _, _, _, kc0, kc1, kc2, kc3⟩ := HP.out wS hSw; go_simp <;> with_reducible rfl)
      simp only [Act.put, List.setIfInBounds_toArray, List.set_cons_zero, List.set_cons_succ]
      refine wpAnyH_take (i := 54) (oi := { dst := some 93, op := Op.load 58 (Operand.tmp 5), type := 58, pos := "law.go:107", after := #[{ on := 51, ground := Ground.guard }], guard := some (51, true) }) (v := ?vq53) rfl (by as_aux_lemma => kernel_rfl) (by as_aux_lemma => kernel_rfl) (by as_aux_lemma => kernel_rfl) (fun _ _ _ h => h) (Or.inl ⟨by rfl, ?yq53⟩) (by assumption) ?rq53
      case yq53 => (intro wS hSw; (try dsimp only at hSw); obtain ⟨_, _, _, _, _, kc0, kc1, kc2, kc3⟩ := HP.out wS hSw; go_simp <;> with_reducible rfl)
      simp only [Act.put, List.setIfInBounds_toArray, List.set_cons_zero, List.set_cons_succ]
      refine wpAnyH_ready (rs := [53]) (by as_aux_lemma => kernel_rfl) (by simp) ?_
      refine AllReadyH.cons (o := { dst := some 92, op := Op.call { callee := Callee.value (Operand.func 34), args := #[Operand.tmp 91], argTypes := #[58] }, type := 29, pos := "law.go:107", after := #[{ on := 52, ground := Ground.data }, { on := 51, ground := Ground.chain }, { on := 51, ground := Ground.guard }], guard := some (51, true) }) rfl (fun K hK => ?_) (by exact AllReadyH.nil)
      rw [if_pos (by rfl)]
      go_simp
      (go_at_call 34; refine (HF1.out _).mono ?_; rintro e z53 ⟨rfl, u53⟩)
      have HS53 := Lib.hid (show Below V3.heap.size V3 z53 from (HS48.out).trans (u53.mono (HS48.out).size))
      clear u53
      refine hK.out _ _ (by (try dsimp only); (first | exact HS77.out | exact HS73.out | exact HS70.out | exact HS69.out | exact HS67.out | exact HS61.out | exact HS60.out | exact HS55.out | exact HS53.out | exact HS48.out | exact HS46.out | exact HS11.out | exact HS9.out | exact HS5.out | exact HS2.out | exact hS7)) (fun hHeld => ?_)
      clear hK K
      simp only [List.setIfInBounds_toArray, List.set_cons_zero, List.set_cons_succ]
      refine wpAnyH_ready (rs := [55]) (by as_aux_lemma => kernel_rfl) (by simp) ?_
      refine AllReadyH.cons (o := { dst := some 94, op := Op.call { callee := Callee.value (Operand.func 35), args := #[Operand.tmp 93], argTypes := #[58] }, type := 29, pos := "law.go:107", after := #[{ on := 54, ground := Ground.data }, { on := 53, ground := Ground.chain }, { on := 51, ground := Ground.guard }], guard := some (51, true) }) rfl (fun K hK => ?_) (by exact AllReadyH.nil)
      rw [if_pos (by rfl)]
      go_simp
      (go_at_call 35; refine (HF2.out _).mono ?_; rintro e z55 ⟨rfl, u55⟩)
      have HS55 := Lib.hid (show Below V3.heap.size V3 z55 from (HS53.out).trans (u55.mono (HS53.out).size))
      clear u55
      refine hK.out _ _ (by (try dsimp only); (first | exact HS77.out | exact HS73.out | exact HS70.out | exact HS69.out | exact HS67.out | exact HS61.out | exact HS60.out | exact HS55.out | exact HS53.out | exact HS48.out | exact HS46.out | exact HS11.out | exact HS9.out | exact HS5.out | exact HS2.out | exact hS7)) (fun hHeld => ?_)
      clear hK K
      simp only [List.setIfInBounds_toArray, List.set_cons_zero, List.set_cons_succ]
      refine wpAnyH_take (i := 56) (oi := { dst := some 95, op := Op.binOp BinOp.eql 29 (Operand.tmp 92) (Operand.tmp 94) 29, type := 4, pos := "law.go:107", after := #[{ on := 53, ground := Ground.data }, { on := 55, ground := Ground.data }, { on := 51, ground := Ground.guard }], guard := some (51, true) }) (v := ?vq56) rfl (by as_aux_lemma => kernel_rfl) (by as_aux_lemma => kernel_rfl) (by as_aux_lemma => kernel_rfl) (fun _ _ _ h => h) (Or.inl ⟨by rfl, ?yq56⟩) (by assumption) ?rq56
      case yq56 => (intro wS hSw; (try dsimp only at hSw); obtain ⟨_, _, _, _, _, kc0, kc1, kc2, kc3⟩ := HP.out wS hSw; go_simp <;> with_reducible rfl)
      simp only [Act.put, List.setIfInBounds_toArray, List.set_cons_zero, List.set_cons_succ]
      refine wpAnyH_take (i := 57) (oi := { dst := some 96, op := Op.pick (Operand.tmp 90) (Operand.tmp 95) (Operand.const (Value.bool false)), type := 4, pos := "law.go:107", after := #[{ on := 51, ground := Ground.data }, { on := 56, ground := Ground.data }], guard := none }) (v := ?vq57) rfl (by as_aux_lemma => kernel_rfl) (by as_aux_lemma => kernel_rfl) (by as_aux_lemma => kernel_rfl) (fun _ _ _ h => h) (Or.inl ⟨by rfl, ?yq57⟩) (by assumption) ?rq57
      case yq57 => (intro wS hSw; (try dsimp only at hSw); obtain ⟨_, _, _, _, _, kc0, kc1, kc2, kc3⟩ := HP.out wS hSw; go_simp <;> with_reducible rfl)
      simp only [Act.put, List.setIfInBounds_toArray, List.set_cons_zero, List.set_cons_succ]
      refine wpAnyH_take (i := 58) (oi := { dst := some 97, op := Op.move (Operand.tmp 96), type := 4, pos := "law.go:107", after := #[{ on := 57, ground := Ground.data }, { on := 55, ground := Ground.chain }], guard := none }) (v := ?vq58) rfl (by as_aux_lemma => kernel_rfl) (by as_aux_lemma => kernel_rfl) (by as_aux_lemma => kernel_rfl) (fun _ _ _ h => h) (Or.inl ⟨by rfl, ?yq58⟩) (by assumption) ?rq58
      case yq58 => (intro wS hSw; (try dsimp only at hSw); obtain ⟨_, _, _, _, _, kc0, kc1, kc2, kc3⟩ := HP.out wS hSw; go_simp <;> with_reducible rfl)
      simp only [Act.put, List.setIfInBounds_toArray, List.set_cons_zero, List.set_cons_succ]
      refine wpAnyH_take (i := 59) (oi := { dst := some 98, op := Op.load 29 (Operand.tmp 7), type := 29, pos := "law.go:107", after := #[{ on := 58, ground := Ground.guard }], guard := some (58, true) }) (v := .agg (adC a)) rfl (by as_aux_lemma => kernel_rfl) (by as_aux_lemma => kernel_rfl) (by as_aux_lemma => kernel_rfl) (fun _ _ _ h => h) (yieldsIf_load_A (by rfl) 29 (.tmp 7) rfl (gp) (0) rfl (adC a) _ (fun w hw => (HP.out w hw).1.range) und_addr rfl (by rw [info_addr, adC_size HA.out.1])) (by assumption) ?_
      simp only [Act.put, List.setIfInBounds_toArray, List.set_cons_zero, List.set_cons_succ]
      refine wpAnyH_take (i := 62) (oi := { dst := some 101, op := Op.load 29 (Operand.tmp 7), type := 29, pos := "law.go:107", after := #[{ on := 58, ground := Ground.guard }], guard := some (58, true) }) (v := .agg (adC a)) rfl (by as_aux_lemma => kernel_rfl) (by as_aux_lemma => kernel_rfl) (by as_aux_lemma => kernel_rfl) (fun _ _ _ h => h) (yieldsIf_load_A (by rfl) 29 (.tmp 7) rfl (gp) (0) rfl (adC a) _ (fun w hw => (HP.out w hw).1.range) und_addr rfl (by rw [info_addr, adC_size HA.out.1])) (by assumption) ?_
      simp only [Act.put, List.setIfInBounds_toArray, List.set_cons_zero, List.set_cons_succ]
      refine wpAnyH_ready (rs := [60]) (by as_aux_lemma => kernel_rfl) (by simp) ?_
      refine AllReadyH.cons (o := { dst := some 99, op := Op.call { callee := Callee.value (Operand.func 32), args := #[Operand.tmp 98], argTypes := #[29] }, type := 58, pos := "law.go:107", after := #[{ on := 59, ground := Ground.data }, { on := 58, ground := Ground.chain }, { on := 58, ground := Ground.guard }], guard := some (58, true) }) rfl (fun K hK => ?_) (by exact AllReadyH.nil)
      rw [if_pos (by rfl)]
      go_simp
      (go_at_call 32; refine (HWa.out _).mono ?_; rintro e z60 ⟨rfl, u60⟩)
      have HS60 := Lib.hid (show Below V3.heap.size V3 z60 from (HS55.out).trans (u60.mono (HS55.out).size))
      clear u60
      refine hK.out _ _ (by (try dsimp only); (first | exact HS77.out | exact HS73.out | exact HS70.out | exact HS69.out | exact HS67.out | exact HS61.out | exact HS60.out | exact HS55.out | exact HS53.out | exact HS48.out | exact HS46.out | exact HS11.out | exact HS9.out | exact HS5.out | exact HS2.out | exact hS7)) (fun hHeld => ?_)
      clear hK K
      simp only [List.setIfInBounds_toArray, List.set_cons_zero, List.set_cons_succ]
      refine wpAnyH_ready (rs := [61]) (by as_aux_lemma => kernel_rfl) (by simp) ?_
      refine AllReadyH.cons (o := { dst := some 100, op := Op.call { callee := Callee.value (Operand.func 34), args := #[Operand.tmp 99], argTypes := #[58] }, type := 29, pos := "law.go:107", after := #[{ on := 60, ground := Ground.data }, { on := 60, ground := Ground.chain }, { on := 58, ground := Ground.guard }], guard := some (58, true) }) rfl (fun K hK => ?_) (by exact AllReadyH.nil)
      rw [if_pos (by rfl)]
      go_simp
      (go_at_call 34; refine (HF3.out _).mono ?_; rintro e z61 ⟨rfl, u61⟩)
      have HS61 := Lib.hid (show Below V3.heap.size V3 z61 from (HS60.out).trans (u61.mono (HS60.out).size))
      clear u61
      refine hK.out _ _ (by (try dsimp only); (first | exact HS77.out | exact HS73.out | exact HS70.out | exact HS69.out | exact HS67.out | exact HS61.out | exact HS60.out | exact HS55.out | exact HS53.out | exact HS48.out | exact HS46.out | exact HS11.out | exact HS9.out | exact HS5.out | exact HS2.out | exact hS7)) (fun hHeld => ?_)
      clear hK K
      simp only [List.setIfInBounds_toArray, List.set_cons_zero, List.set_cons_succ]
      refine wpAnyH_take (i := 63) (oi := { dst := some 102, op := Op.binOp BinOp.eql 29 (Operand.tmp 100) (Operand.tmp 101) 29, type := 4, pos := "law.go:107", after := #[{ on := 61, ground := Ground.data }, { on := 62, ground := Ground.data }, { on := 58, ground := Ground.guard }], guard := some (58, true) }) (v := ?vq63) rfl (by as_aux_lemma => kernel_rfl) (by as_aux_lemma => kernel_rfl) (by as_aux_lemma => kernel_rfl) (fun _ _ _ h => h) (Or.inl ⟨by rfl, ?yq63⟩) (by assumption) ?rq63
      case yq63 => (intro wS hSw; (try dsimp only at hSw); obtain ⟨_, _, _, _, _, kc0, kc1, kc2, kc3⟩ := HP.out wS hSw; go_simp <;> with_reducible rfl)
      simp only [Act.put, List.setIfInBounds_toArray, List.set_cons_zero, List.set_cons_succ]
      refine wpAnyH_take (i := 64) (oi := { dst := some 103, op := Op.pick (Operand.tmp 97) (Operand.tmp 102) (Operand.const (Value.bool false)), type := 4, pos := "law.go:107", after := #[{ on := 58, ground := Ground.data }, { on := 63, ground := Ground.data }], guard := none }) (v := ?vq64) rfl (by as_aux_lemma => kernel_rfl) (by as_aux_lemma => kernel_rfl) (by as_aux_lemma => kernel_rfl) (fun _ _ _ h => h) (Or.inl ⟨by rfl, ?yq64⟩) (by assumption) ?rq64
      case yq64 => (intro wS hSw; (try dsimp only at hSw); obtain ⟨_, _, _, _, _, kc0, kc1, kc2, kc3⟩ := HP.out wS hSw; go_simp <;> with_reducible rfl)
      simp only [Act.put, List.setIfInBounds_toArray, List.set_cons_zero, List.set_cons_succ]
      refine wpAnyH_take (i := 65) (oi := { dst := some 104, op := Op.move (Operand.tmp 103), type := 4, pos := "law.go:107", after := #[{ on := 64, ground := Ground.data }, { on := 61, ground := Ground.chain }], guard := none }) (v := ?vq65) rfl (by as_aux_lemma => kernel_rfl) (by as_aux_lemma => kernel_rfl) (by as_aux_lemma => kernel_rfl) (fun _ _ _ h => h) (Or.inl ⟨by rfl, ?yq65⟩) (by assumption) ?rq65
      case yq65 => (intro wS hSw; (try dsimp only at hSw); obtain ⟨_, _, _, _, _, kc0, kc1, kc2, kc3⟩ := HP.out wS hSw; go_simp <;> with_reducible rfl)
      simp only [Act.put, List.setIfInBounds_toArray, List.set_cons_zero, List.set_cons_succ]
      refine wpAnyH_take (i := 66) (oi := { dst := some 105, op := Op.load 29 (Operand.tmp 7), type := 29, pos := "law.go:107", after := #[{ on := 65, ground := Ground.guard }], guard := some (65, true) }) (v := .agg (adC a)) rfl (by as_aux_lemma => kernel_rfl) (by as_aux_lemma => kernel_rfl) (by as_aux_lemma => kernel_rfl) (fun _ _ _ h => h) (yieldsIf_load_A (by rfl) 29 (.tmp 7) rfl (gp) (0) rfl (adC a) _ (fun w hw => (HP.out w hw).1.range) und_addr rfl (by rw [info_addr, adC_size HA.out.1])) (by assumption) ?_
      simp only [Act.put, List.setIfInBounds_toArray, List.set_cons_zero, List.set_cons_succ]
      refine wpAnyH_take (i := 68) (oi := { dst := some 107, op := Op.load 29 (Operand.tmp 8), type := 29, pos := "law.go:107", after := #[{ on := 65, ground := Ground.guard }], guard := some (65, true) }) (v := .agg (adC b)) rfl (by as_aux_lemma => kernel_rfl) (by as_aux_lemma => kernel_rfl) (by as_aux_lemma => kernel_rfl) (fun _ _ _ h => h) (yieldsIf_load_A (by rfl) 29 (.tmp 8) rfl (gq) (0) rfl (adC b) _ (fun w hw => (HP.out w hw).2.1.range) und_addr rfl (by rw [info_addr, adC_size HA.out.2])) (by assumption) ?_
      simp only [Act.put, List.setIfInBounds_toArray, List.set_cons_zero, List.set_cons_succ]
      refine wpAnyH_take (i := 71) (oi := { dst := some 110, op := Op.load 29 (Operand.tmp 7), type := 29, pos := "law.go:107", after := #[{ on := 65, ground := Ground.guard }], guard := some (65, true) }) (v := .agg (adC a)) rfl (by as_aux_lemma => kernel_rfl) (by as_aux_lemma => kernel_rfl) (by as_aux_lemma => kernel_rfl) (fun _ _ _ h => h) (yieldsIf_load_A (by rfl) 29 (.tmp 7) rfl (gp) (0) rfl (adC a) _ (fun w hw => (HP.out w hw).1.range) und_addr rfl (by rw [info_addr, adC_size HA.out.1])) (by assumption) ?_
      simp only [Act.put, List.setIfInBounds_toArray, List.set_cons_zero, List.set_cons_succ]
      refine wpAnyH_take (i := 72) (oi := { dst := some 111, op := Op.load 29 (Operand.tmp 8), type := 29, pos := "law.go:107", after := #[{ on := 65, ground := Ground.guard }], guard := some (65, true) }) (v := .agg (adC b)) rfl (by as_aux_lemma => kernel_rfl) (by as_aux_lemma => kernel_rfl) (by as_aux_lemma => kernel_rfl) (fun _ _ _ h => h) (yieldsIf_load_A (by rfl) 29 (.tmp 8) rfl (gq) (0) rfl (adC b) _ (fun w hw => (HP.out w hw).2.1.range) und_addr rfl (by rw [info_addr, adC_size HA.out.2])) (by assumption) ?_
      simp only [Act.put, List.setIfInBounds_toArray, List.set_cons_zero, List.set_cons_succ]
      refine wpAnyH_ready (rs := [67]) (by as_aux_lemma => kernel_rfl) (by simp) ?_
      refine AllReadyH.cons (o := { dst := some 106, op := Op.call { callee := Callee.value (Operand.func 32), args := #[Operand.tmp 105], argTypes := #[29] }, type := 58, pos := "law.go:107", after := #[{ on := 66, ground := Ground.data }, { on := 65, ground := Ground.chain }, { on := 65, ground := Ground.guard }], guard := some (65, true) }) rfl (fun K hK => ?_) (by exact AllReadyH.nil)
      rw [if_pos (by rfl)]
      go_simp
      (go_at_call 32; refine (HWa.out _).mono ?_; rintro e z67 ⟨rfl, u67⟩)
      have HS67 := Lib.hid (show Below V3.heap.size V3 z67 from (HS61.out).trans (u67.mono (HS61.out).size))
      clear u67
      refine hK.out _ _ (by (try dsimp only); (first | exact HS77.out | exact HS73.out | exact HS70.out | exact HS69.out | exact HS67.out | exact HS61.out | exact HS60.out | exact HS55.out | exact HS53.out | exact HS48.out | exact HS46.out | exact HS11.out | exact HS9.out | exact HS5.out | exact HS2.out | exact hS7)) (fun hHeld => ?_)
      clear hK K
      simp only [List.setIfInBounds_toArray, List.set_cons_zero, List.set_cons_succ]
      refine wpAnyH_ready (rs := [69]) (by as_aux_lemma => kernel_rfl) (by simp) ?_
      refine AllReadyH.cons (o := { dst := some 108, op := Op.call { callee := Callee.value (Operand.func 32), args := #[Operand.tmp 107], argTypes := #[29] }, type := 58, pos := "law.go:107", after := #[{ on := 68, ground := Ground.data }, { on := 67, ground := Ground.chain }, { on := 65, ground := Ground.guard }], guard := some (65, true) }) rfl (fun K hK => ?_) (by exact AllReadyH.nil)
      rw [if_pos (by rfl)]
      go_simp
      (go_at_call 32; refine (HWb.out _).mono ?_; rintro e z69 ⟨rfl, u69⟩)
      have HS69 := Lib.hid (show Below V3.heap.size V3 z69 from (HS67.out).trans (u69.mono (HS67.out).size))
      clear u69
      refine hK.out _ _ (by (try dsimp only); (first | exact HS77.out | exact HS73.out | exact HS70.out | exact HS69.out | exact HS67.out | exact HS61.out | exact HS60.out | exact HS55.out | exact HS53.out | exact HS48.out | exact HS46.out | exact HS11.out | exact HS9.out | exact HS5.out | exact HS2.out | exact hS7)) (fun hHeld => ?_)
      clear hK K
      simp only [List.setIfInBounds_toArray, List.set_cons_zero, List.set_cons_succ]
      refine wpAnyH_ready (rs := [70]) (by as_aux_lemma => kernel_rfl) (by simp) ?_
      refine AllReadyH.cons (o := { dst := some 109, op := Op.call { callee := Callee.value (Operand.func 36), args := #[Operand.tmp 106, Operand.tmp 108], argTypes := #[58, 58] }, type := 3, pos := "law.go:107", after := #[{ on := 67, ground := Ground.data }, { on := 69, ground := Ground.data }, { on := 69, ground := Ground.chain }, { on := 65, ground := Ground.guard }], guard := some (65, true) }) rfl (fun K hK => ?_) (by exact AllReadyH.nil)
      rw [if_pos (by rfl)]
      go_simp
      (go_at_call 36; refine (HO3.out _).mono ?_; rintro e z70 ⟨rfl, u70⟩)
      have HS70 := Lib.hid (show Below V3.heap.size V3 z70 from (HS69.out).trans (u70.mono (HS69.out).size))
      clear u70
      refine hK.out _ _ (by (try dsimp only); (first | exact HS77.out | exact HS73.out | exact HS70.out | exact HS69.out | exact HS67.out | exact HS61.out | exact HS60.out | exact HS55.out | exact HS53.out | exact HS48.out | exact HS46.out | exact HS11.out | exact HS9.out | exact HS5.out | exact HS2.out | exact hS7)) (fun hHeld => ?_)
      clear hK K
      simp only [List.setIfInBounds_toArray, List.set_cons_zero, List.set_cons_succ]
      refine wpAnyH_ready (rs := [73]) (by as_aux_lemma => kernel_rfl) (by simp) ?_
      refine AllReadyH.cons (o := { dst := some 112, op := Op.call { callee := Callee.value (Operand.func 30), args := #[Operand.tmp 110, Operand.tmp 111], argTypes := #[29, 29] }, type := 3, pos := "law.go:107", after := #[{ on := 71, ground := Ground.data }, { on := 72, ground := Ground.data }, { on := 70, ground := Ground.chain }, { on := 65, ground := Ground.guard }], guard := some (65, true) }) rfl (fun K hK => ?_) (by exact AllReadyH.nil)
      rw [if_pos (by rfl)]
      go_simp
      (go_at_call 30; refine (HO2.out _).mono ?_; rintro e z73 ⟨rfl, u73⟩)
      have HS73 := Lib.hid (show Below V3.heap.size V3 z73 from (HS70.out).trans (u73.mono (HS70.out).size))
      clear u73
      refine hK.out _ _ (by (try dsimp only); (first | exact HS77.out | exact HS73.out | exact HS70.out | exact HS69.out | exact HS67.out | exact HS61.out | exact HS60.out | exact HS55.out | exact HS53.out | exact HS48.out | exact HS46.out | exact HS11.out | exact HS9.out | exact HS5.out | exact HS2.out | exact hS7)) (fun hHeld => ?_)
      clear hK K
      simp only [List.setIfInBounds_toArray, List.set_cons_zero, List.set_cons_succ]
      refine wpAnyH_take (i := 74) (oi := { dst := some 113, op := Op.binOp BinOp.eql 3 (Operand.tmp 109) (Operand.tmp 112) 3, type := 4, pos := "law.go:107", after := #[{ on := 70, ground := Ground.data }, { on := 73, ground := Ground.data }, { on := 65, ground := Ground.guard }], guard := some (65, true) }) (v := ?vq74) rfl (by as_aux_lemma => kernel_rfl) (by as_aux_lemma => kernel_rfl) (by as_aux_lemma => kernel_rfl) (fun _ _ _ h => h) (Or.inl ⟨by rfl, ?yq74⟩) (by assumption) ?rq74
      case yq74 => (intro wS hSw; (try dsimp only at hSw); obtain ⟨_, _, _, _, _, kc0, kc1, kc2, kc3⟩ := HP.out wS hSw; go_simp <;> with_reducible rfl)
      simp only [Act.put, List.setIfInBounds_toArray, List.set_cons_zero, List.set_cons_succ]
      refine wpAnyH_take (i := 75) (oi := { dst := some 114, op := Op.pick (Operand.tmp 104) (Operand.tmp 113) (Operand.const (Value.bool false)), type := 4, pos := "law.go:107", after := #[{ on := 65, ground := Ground.data }, { on := 74, ground := Ground.data }], guard := none }) (v := ?vq75) rfl (by as_aux_lemma => kernel_rfl) (by as_aux_lemma => kernel_rfl) (by as_aux_lemma => kernel_rfl) (fun _ _ _ h => h) (Or.inl ⟨by rfl, ?yq75⟩) (by assumption) ?rq75
      case yq75 => (intro wS hSw; (try dsimp only at hSw); obtain ⟨_, _, _, _, _, kc0, kc1, kc2, kc3⟩ := HP.out wS hSw; go_simp <;> with_reducible rfl)
      simp only [Act.put, List.setIfInBounds_toArray, List.set_cons_zero, List.set_cons_succ]
      refine wpAnyH_take (i := 76) (oi := { dst := some 115, op := Op.move (Operand.tmp 114), type := 4, pos := "law.go:107", after := #[{ on := 75, ground := Ground.data }, { on := 73, ground := Ground.chain }], guard := none }) (v := ?vq76) rfl (by as_aux_lemma => kernel_rfl) (by as_aux_lemma => kernel_rfl) (by as_aux_lemma => kernel_rfl) (fun _ _ _ h => h) (Or.inl ⟨by rfl, ?yq76⟩) (by assumption) ?rq76
      case yq76 => (intro wS hSw; (try dsimp only at hSw); obtain ⟨_, _, _, _, _, kc0, kc1, kc2, kc3⟩ := HP.out wS hSw; go_simp <;> with_reducible rfl)
      simp only [Act.put, List.setIfInBounds_toArray, List.set_cons_zero, List.set_cons_succ]
      refine wpAnyH_ready (rs := [77]) (by as_aux_lemma => kernel_rfl) (by simp) ?_
      refine AllReadyH.cons (o := { dst := some 116, op := Op.call { callee := Callee.value (Operand.func 10), args := #[], argTypes := #[] }, type := 4, pos := "law.go:107", after := #[{ on := 76, ground := Ground.chain }, { on := 76, ground := Ground.guard }], guard := some (76, true) }) rfl (fun K hK => ?_) (by exact AllReadyH.nil)
      rw [if_pos (by rfl)]
      go_simp
      (go_at_call 10; refine (pworks_any _ (HE.out.2.keep (HS73.out))).mono ?_; rintro e z77 ⟨rfl, u77⟩)
      have HS77 := Lib.hid (show Below V3.heap.size V3 z77 from (HS73.out).trans (u77.mono (HS73.out).size))
      clear u77
      refine hK.out _ _ (by (try dsimp only); (first | exact HS77.out | exact HS73.out | exact HS70.out | exact HS69.out | exact HS67.out | exact HS61.out | exact HS60.out | exact HS55.out | exact HS53.out | exact HS48.out | exact HS46.out | exact HS11.out | exact HS9.out | exact HS5.out | exact HS2.out | exact hS7)) (fun hHeld => ?_)
      clear hK K
      simp only [List.setIfInBounds_toArray, List.set_cons_zero, List.set_cons_succ]
      refine wpAnyH_take (i := 78) (oi := { dst := some 117, op := Op.pick (Operand.tmp 115) (Operand.tmp 116) (Operand.const (Value.bool false)), type := 4, pos := "law.go:107", after := #[{ on := 76, ground := Ground.data }, { on := 77, ground := Ground.data }], guard := none }) (v := ?vq78) rfl (by as_aux_lemma => kernel_rfl) (by as_aux_lemma => kernel_rfl) (by as_aux_lemma => kernel_rfl) (fun _ _ _ h => h) (Or.inl ⟨by rfl, ?yq78⟩) (by assumption) ?rq78
      case yq78 => (intro wS hSw; (try dsimp only at hSw); obtain ⟨_, _, _, _, _, kc0, kc1, kc2, kc3⟩ := HP.out wS hSw; go_simp <;> with_reducible rfl)
      simp only [Act.put, List.setIfInBounds_toArray, List.set_cons_zero, List.set_cons_succ]
      refine wpAnyH_take (i := 79) (oi := { dst := some 6, op := Op.assign (Operand.tmp 117), type := 4, pos := "law.go:107", after := #[{ on := 78, ground := Ground.data }, { on := 77, ground := Ground.chain }, { on := 0, ground := Ground.phase }, { on := 1, ground := Ground.phase }, { on := 2, ground := Ground.phase }, { on := 3, ground := Ground.phase }, { on := 4, ground := Ground.phase }, { on := 5, ground := Ground.phase }, { on := 6, ground := Ground.phase }, { on := 7, ground := Ground.phase }, { on := 8, ground := Ground.phase }, { on := 9, ground := Ground.phase }, { on := 10, ground := Ground.phase }, { on := 11, ground := Ground.phase }, { on := 12, ground := Ground.phase }, { on := 13, ground := Ground.phase }, { on := 14, ground := Ground.phase }, { on := 15, ground := Ground.phase }, { on := 16, ground := Ground.phase }, { on := 17, ground := Ground.phase }, { on := 18, ground := Ground.phase }, { on := 19, ground := Ground.phase }, { on := 20, ground := Ground.phase }, { on := 21, ground := Ground.phase }, { on := 22, ground := Ground.phase }, { on := 23, ground := Ground.phase }, { on := 24, ground := Ground.phase }, { on := 25, ground := Ground.phase }, { on := 26, ground := Ground.phase }, { on := 27, ground := Ground.phase }, { on := 28, ground := Ground.phase }, { on := 29, ground := Ground.phase }, { on := 30, ground := Ground.phase }, { on := 31, ground := Ground.phase }, { on := 32, ground := Ground.phase }, { on := 33, ground := Ground.phase }, { on := 34, ground := Ground.phase }, { on := 35, ground := Ground.phase }, { on := 36, ground := Ground.phase }, { on := 37, ground := Ground.phase }, { on := 38, ground := Ground.phase }, { on := 39, ground := Ground.phase }, { on := 40, ground := Ground.phase }, { on := 41, ground := Ground.phase }, { on := 42, ground := Ground.phase }, { on := 43, ground := Ground.phase }, { on := 44, ground := Ground.phase }, { on := 45, ground := Ground.phase }, { on := 46, ground := Ground.phase }, { on := 47, ground := Ground.phase }, { on := 48, ground := Ground.phase }, { on := 49, ground := Ground.phase }, { on := 50, ground := Ground.phase }, { on := 51, ground := Ground.phase }, { on := 52, ground := Ground.phase }, { on := 53, ground := Ground.phase }, { on := 54, ground := Ground.phase }, { on := 55, ground := Ground.phase }, { on := 56, ground := Ground.phase }, { on := 57, ground := Ground.phase }, { on := 58, ground := Ground.phase }, { on := 59, ground := Ground.phase }, { on := 60, ground := Ground.phase }, { on := 61, ground := Ground.phase }, { on := 62, ground := Ground.phase }, { on := 63, ground := Ground.phase }, { on := 64, ground := Ground.phase }, { on := 65, ground := Ground.phase }, { on := 66, ground := Ground.phase }, { on := 67, ground := Ground.phase }, { on := 68, ground := Ground.phase }, { on := 69, ground := Ground.phase }, { on := 70, ground := Ground.phase }, { on := 71, ground := Ground.phase }, { on := 72, ground := Ground.phase }, { on := 73, ground := Ground.phase }, { on := 74, ground := Ground.phase }, { on := 75, ground := Ground.phase }, { on := 76, ground := Ground.phase }, { on := 77, ground := Ground.phase }, { on := 78, ground := Ground.phase }], guard := none }) (v := ?vq79) rfl (by as_aux_lemma => kernel_rfl) (by as_aux_lemma => kernel_rfl) (by as_aux_lemma => kernel_rfl) (fun _ _ _ h => h) (Or.inl ⟨by rfl, ?yq79⟩) (by assumption) ?rq79
      case yq79 => (intro wS hSw; (try dsimp only at hSw); obtain ⟨_, _, _, _, _, kc0, kc1, kc2, kc3⟩ := HP.out wS hSw; go_simp <;> with_reducible rfl)
      simp only [Act.put, List.setIfInBounds_toArray, List.set_cons_zero, List.set_cons_succ]
      refine wpAnyH_done (by as_aux_lemma => kernel_rfl) ?_ _
      clear hHeld
      go_wp2_with fail
      go_ret
      exact ⟨rfl, HE.out.1.trans (HS77.out.mono HE.out.1.size)⟩
    · subst hok
      obtain rfl : en = 190 := HAA.out.2
      refine wp_region_held_drew (S := fun w' => Below V3.heap.size V3 w') (by as_aux_lemma => kernel_rfl) hS7 (fun hHeld => ?_)
      simp only [List.size_toArray, List.length_cons, List.length_nil, Nat.reduceAdd, Array.replicate_succ, Array.replicate_zero, List.push_toArray, List.nil_append, List.cons_append]
      refine wpAnyH_take (i := 0) (oi := { dst := some 39, op := Op.load 29 (Operand.tmp 7), type := 29, pos := "law.go:107", after := #[], guard := none }) (v := .agg (adC a)) rfl (by as_aux_lemma => kernel_rfl) (by as_aux_lemma => kernel_rfl) (by as_aux_lemma => kernel_rfl) (fun _ _ _ h => h) (yieldsIf_load_A (by rfl) 29 (.tmp 7) rfl (gp) (0) rfl (adC a) _ (fun w hw => (HP.out w hw).1.range) und_addr rfl (by rw [info_addr, adC_size HA.out.1])) (by assumption) ?_
      simp only [Act.put, List.setIfInBounds_toArray, List.set_cons_zero, List.set_cons_succ]
      refine wpAnyH_take (i := 1) (oi := { dst := some 40, op := Op.load 29 (Operand.tmp 8), type := 29, pos := "law.go:107", after := #[], guard := none }) (v := .agg (adC b)) rfl (by as_aux_lemma => kernel_rfl) (by as_aux_lemma => kernel_rfl) (by as_aux_lemma => kernel_rfl) (fun _ _ _ h => h) (yieldsIf_load_A (by rfl) 29 (.tmp 8) rfl (gq) (0) rfl (adC b) _ (fun w hw => (HP.out w hw).2.1.range) und_addr rfl (by rw [info_addr, adC_size HA.out.2])) (by assumption) ?_
      simp only [Act.put, List.setIfInBounds_toArray, List.set_cons_zero, List.set_cons_succ]
      refine wpAnyH_take (i := 3) (oi := { dst := some 42, op := Op.load 29 (Operand.tmp 7), type := 29, pos := "law.go:107", after := #[], guard := none }) (v := .agg (adC a)) rfl (by as_aux_lemma => kernel_rfl) (by as_aux_lemma => kernel_rfl) (by as_aux_lemma => kernel_rfl) (fun _ _ _ h => h) (yieldsIf_load_A (by rfl) 29 (.tmp 7) rfl (gp) (0) rfl (adC a) _ (fun w hw => (HP.out w hw).1.range) und_addr rfl (by rw [info_addr, adC_size HA.out.1])) (by assumption) ?_
      simp only [Act.put, List.setIfInBounds_toArray, List.set_cons_zero, List.set_cons_succ]
      refine wpAnyH_take (i := 4) (oi := { dst := some 43, op := Op.load 29 (Operand.tmp 8), type := 29, pos := "law.go:107", after := #[], guard := none }) (v := .agg (adC b)) rfl (by as_aux_lemma => kernel_rfl) (by as_aux_lemma => kernel_rfl) (by as_aux_lemma => kernel_rfl) (fun _ _ _ h => h) (yieldsIf_load_A (by rfl) 29 (.tmp 8) rfl (gq) (0) rfl (adC b) _ (fun w hw => (HP.out w hw).2.1.range) und_addr rfl (by rw [info_addr, adC_size HA.out.2])) (by assumption) ?_
      simp only [Act.put, List.setIfInBounds_toArray, List.set_cons_zero, List.set_cons_succ]
      refine wpAnyH_ready (rs := [2]) (by as_aux_lemma => kernel_rfl) (by simp) ?_
      refine AllReadyH.cons (o := { dst := some 41, op := Op.call { callee := Callee.value (Operand.func 29), args := #[Operand.tmp 39, Operand.tmp 40], argTypes := #[29, 29] }, type := 3, pos := "law.go:107", after := #[{ on := 0, ground := Ground.data }, { on := 1, ground := Ground.data }], guard := none }) rfl (fun K hK => ?_) (by exact AllReadyH.nil)
      rw [if_pos (by rfl)]
      go_simp
      (go_at_call 29; refine (HO1.out _).mono ?_; rintro e z2 ⟨rfl, u2⟩)
      have HS2 := Lib.hid (show Below V3.heap.size V3 z2 from (hS7).trans (u2.mono (hS7).size))
      clear u2
      refine hK.out _ _ (by (try dsimp only); (first | exact HS77.out | exact HS73.out | exact HS70.out | exact HS69.out | exact HS67.out | exact HS61.out | exact HS60.out | exact HS55.out | exact HS53.out | exact HS48.out | exact HS46.out | exact HS11.out | exact HS9.out | exact HS5.out | exact HS2.out | exact hS7)) (fun hHeld => ?_)
      clear hK K
      simp only [List.setIfInBounds_toArray, List.set_cons_zero, List.set_cons_succ]
      refine wpAnyH_ready (rs := [5]) (by as_aux_lemma => kernel_rfl) (by simp) ?_
      refine AllReadyH.cons (o := { dst := some 44, op := Op.call { callee := Callee.value (Operand.func 30), args := #[Operand.tmp 42, Operand.tmp 43], argTypes := #[29, 29] }, type := 3, pos := "law.go:107", after := #[{ on := 3, ground := Ground.data }, { on := 4, ground := Ground.data }, { on := 2, ground := Ground.chain }], guard := none }) rfl (fun K hK => ?_) (by exact AllReadyH.nil)
      rw [if_pos (by rfl)]
      go_simp
      (go_at_call 30; refine (HO2.out _).mono ?_; rintro e z5 ⟨rfl, u5⟩)
      have HS5 := Lib.hid (show Below V3.heap.size V3 z5 from (HS2.out).trans (u5.mono (HS2.out).size))
      clear u5
      refine hK.out _ _ (by (try dsimp only); (first | exact HS77.out | exact HS73.out | exact HS70.out | exact HS69.out | exact HS67.out | exact HS61.out | exact HS60.out | exact HS55.out | exact HS53.out | exact HS48.out | exact HS46.out | exact HS11.out | exact HS9.out | exact HS5.out | exact HS2.out | exact hS7)) (fun hHeld => ?_)
      clear hK K
      simp only [List.setIfInBounds_toArray, List.set_cons_zero, List.set_cons_succ]
      refine wpAnyH_take (i := 6) (oi := { dst := some 45, op := Op.binOp BinOp.eql 3 (Operand.tmp 41) (Operand.tmp 44) 3, type := 4, pos := "law.go:107", after := #[{ on := 2, ground := Ground.data }, { on := 5, ground := Ground.data }], guard := none }) (v := ?vq6u) rfl (by as_aux_lemma => kernel_rfl) (by as_aux_lemma => kernel_rfl) (by as_aux_lemma => kernel_rfl) (fun _ _ _ h => h) (Or.inl ⟨by rfl, ?yq6u⟩) (by assumption) ?rq6u
      case yq6u => (intro wS hSw; (try dsimp only at hSw); obtain ⟨_, _, _, _, _, kc0, kc1, kc2, kc3⟩ := HP.out wS hSw; go_simp <;> with_reducible rfl)
      simp only [Act.put, List.setIfInBounds_toArray, List.set_cons_zero, List.set_cons_succ]
      refine wpAnyH_take (i := 7) (oi := { dst := some 46, op := Op.move (Operand.tmp 45), type := 4, pos := "law.go:107", after := #[{ on := 6, ground := Ground.data }, { on := 5, ground := Ground.chain }], guard := none }) (v := ?vq7u) rfl (by as_aux_lemma => kernel_rfl) (by as_aux_lemma => kernel_rfl) (by as_aux_lemma => kernel_rfl) (fun _ _ _ h => h) (Or.inl ⟨by rfl, ?yq7u⟩) (by assumption) ?rq7u
      case yq7u => (intro wS hSw; (try dsimp only at hSw); obtain ⟨_, _, _, _, _, kc0, kc1, kc2, kc3⟩ := HP.out wS hSw; go_simp <;> with_reducible rfl)
      simp only [Act.put, List.setIfInBounds_toArray, List.set_cons_zero, List.set_cons_succ]
      refine wpAnyH_take (i := 8) (oi := { dst := some 47, op := Op.load 29 (Operand.tmp 7), type := 29, pos := "law.go:107", after := #[{ on := 7, ground := Ground.guard }], guard := some (7, true) }) (v := .agg (adC a)) rfl (by as_aux_lemma => kernel_rfl) (by as_aux_lemma => kernel_rfl) (by as_aux_lemma => kernel_rfl) (fun _ _ _ h => h) (yieldsIf_load_A (by rfl) 29 (.tmp 7) rfl (gp) (0) rfl (adC a) _ (fun w hw => (HP.out w hw).1.range) und_addr rfl (by rw [info_addr, adC_size HA.out.1])) (by assumption) ?_
      simp only [Act.put, List.setIfInBounds_toArray, List.set_cons_zero, List.set_cons_succ]
      refine wpAnyH_take (i := 10) (oi := { dst := some 49, op := Op.load 29 (Operand.tmp 7), type := 29, pos := "law.go:107", after := #[{ on := 7, ground := Ground.guard }], guard := some (7, true) }) (v := .agg (adC a)) rfl (by as_aux_lemma => kernel_rfl) (by as_aux_lemma => kernel_rfl) (by as_aux_lemma => kernel_rfl) (fun _ _ _ h => h) (yieldsIf_load_A (by rfl) 29 (.tmp 7) rfl (gp) (0) rfl (adC a) _ (fun w hw => (HP.out w hw).1.range) und_addr rfl (by rw [info_addr, adC_size HA.out.1])) (by assumption) ?_
      simp only [Act.put, List.setIfInBounds_toArray, List.set_cons_zero, List.set_cons_succ]
      refine wpAnyH_ready (rs := [9]) (by as_aux_lemma => kernel_rfl) (by simp) ?_
      refine AllReadyH.cons (o := { dst := some 48, op := Op.call { callee := Callee.value (Operand.func 28), args := #[Operand.tmp 47], argTypes := #[29] }, type := 9, pos := "law.go:107", after := #[{ on := 8, ground := Ground.data }, { on := 7, ground := Ground.chain }, { on := 7, ground := Ground.guard }], guard := some (7, true) }) rfl (fun K hK => ?_) (by exact AllReadyH.nil)
      rw [if_pos (by rfl)]
      go_simp
      (go_at_call 28; refine (HN.out _).mono ?_; rintro e z9 ⟨rfl, u9⟩)
      have HS9 := Lib.hid (show Below V3.heap.size V3 z9 from (HS5.out).trans (u9.mono (HS5.out).size))
      clear u9
      refine hK.out _ _ (by (try dsimp only); (first | exact HS77.out | exact HS73.out | exact HS70.out | exact HS69.out | exact HS67.out | exact HS61.out | exact HS60.out | exact HS55.out | exact HS53.out | exact HS48.out | exact HS46.out | exact HS11.out | exact HS9.out | exact HS5.out | exact HS2.out | exact hS7)) (fun hHeld => ?_)
      clear hK K
      simp only [List.setIfInBounds_toArray, List.set_cons_zero, List.set_cons_succ]
      refine wpAnyH_ready (rs := [11]) (by as_aux_lemma => kernel_rfl) (by simp) ?_
      refine AllReadyH.cons (o := { dst := some 50, op := Op.call { callee := Callee.value (Operand.func 31), args := #[Operand.tmp 49], argTypes := #[29] }, type := 9, pos := "law.go:107", after := #[{ on := 10, ground := Ground.data }, { on := 9, ground := Ground.chain }, { on := 7, ground := Ground.guard }], guard := some (7, true) }) rfl (fun K hK => ?_) (by exact AllReadyH.nil)
      rw [if_pos (by rfl)]
      go_simp
      (go_at_call 31; refine (HR.out _).mono ?_; rintro e z11 ⟨rfl, u11⟩)
      have HS11 := Lib.hid (show Below V3.heap.size V3 z11 from (HS9.out).trans (u11.mono (HS9.out).size))
      clear u11
      refine hK.out _ _ (by (try dsimp only); (first | exact HS77.out | exact HS73.out | exact HS70.out | exact HS69.out | exact HS67.out | exact HS61.out | exact HS60.out | exact HS55.out | exact HS53.out | exact HS48.out | exact HS46.out | exact HS11.out | exact HS9.out | exact HS5.out | exact HS2.out | exact hS7)) (fun hHeld => ?_)
      clear hK K
      simp only [List.setIfInBounds_toArray, List.set_cons_zero, List.set_cons_succ]
      refine wpAnyH_take (i := 12) (oi := { dst := some 51, op := Op.binOp BinOp.eql 9 (Operand.tmp 48) (Operand.tmp 50) 9, type := 4, pos := "law.go:107", after := #[{ on := 9, ground := Ground.data }, { on := 11, ground := Ground.data }, { on := 7, ground := Ground.guard }], guard := some (7, true) }) (v := ?vq12u) rfl (by as_aux_lemma => kernel_rfl) (by as_aux_lemma => kernel_rfl) (by as_aux_lemma => kernel_rfl) (fun _ _ _ h => h) (Or.inl ⟨by rfl, ?yq12u⟩) (by assumption) ?rq12u
      case yq12u => (intro wS hSw; (try dsimp only at hSw); obtain ⟨_, _, _, _, _, kc0, kc1, kc2, kc3⟩ := HP.out wS hSw; go_simp <;> with_reducible rfl)
      simp only [Act.put, List.setIfInBounds_toArray, List.set_cons_zero, List.set_cons_succ]
      refine wpAnyH_take (i := 13) (oi := { dst := some 52, op := Op.pick (Operand.tmp 46) (Operand.tmp 51) (Operand.const (Value.bool false)), type := 4, pos := "law.go:107", after := #[{ on := 7, ground := Ground.data }, { on := 12, ground := Ground.data }], guard := none }) (v := ?vq13u) rfl (by as_aux_lemma => kernel_rfl) (by as_aux_lemma => kernel_rfl) (by as_aux_lemma => kernel_rfl) (fun _ _ _ h => h) (Or.inl ⟨by rfl, ?yq13u⟩) (by assumption) ?rq13u
      case yq13u => (intro wS hSw; (try dsimp only at hSw); obtain ⟨_, _, _, _, _, kc0, kc1, kc2, kc3⟩ := HP.out wS hSw; go_simp <;> with_reducible rfl)
      simp only [Act.put, List.setIfInBounds_toArray, List.set_cons_zero, List.set_cons_succ]
      refine wpAnyH_take (i := 14) (oi := { dst := some 53, op := Op.move (Operand.tmp 52), type := 4, pos := "law.go:107", after := #[{ on := 13, ground := Ground.data }, { on := 11, ground := Ground.chain }], guard := none }) (v := ?vq14u) rfl (by as_aux_lemma => kernel_rfl) (by as_aux_lemma => kernel_rfl) (by as_aux_lemma => kernel_rfl) (fun _ _ _ h => h) (Or.inl ⟨by rfl, ?yq14u⟩) (by assumption) ?rq14u
      case yq14u => (intro wS hSw; (try dsimp only at hSw); obtain ⟨_, _, _, _, _, kc0, kc1, kc2, kc3⟩ := HP.out wS hSw; go_simp <;> with_reducible rfl)
      simp only [Act.put, List.setIfInBounds_toArray, List.set_cons_zero, List.set_cons_succ]
      refine wpAnyH_take (i := 15) (oi := { dst := some 54, op := Op.load 29 (Operand.tmp 9), type := 29, pos := "law.go:107", after := #[{ on := 14, ground := Ground.guard }], guard := some (14, true) }) (v := .agg (adC A)) rfl (by as_aux_lemma => kernel_rfl) (by as_aux_lemma => kernel_rfl) (by as_aux_lemma => kernel_rfl) (fun _ _ _ h => h) (yieldsIf_load_A (by rfl) 29 (.tmp 9) rfl (p1) (0) rfl (adC A) _ (fun w hw => (HP.out w hw).2.2.1.range) und_addr rfl (by rw [info_addr, adC_size HAA.out.1])) (by assumption) ?_
      simp only [Act.put, List.setIfInBounds_toArray, List.set_cons_zero, List.set_cons_succ]
      refine wpAnyH_take (i := 16) (oi := { dst := some 55, op := Op.load 29 (Operand.tmp 11), type := 29, pos := "law.go:107", after := #[{ on := 14, ground := Ground.guard }], guard := some (14, true) }) (v := .agg (adC A)) rfl (by as_aux_lemma => kernel_rfl) (by as_aux_lemma => kernel_rfl) (by as_aux_lemma => kernel_rfl) (fun _ _ _ h => h) (yieldsIf_load_A (by rfl) 29 (.tmp 11) rfl (p2) (0) rfl (adC A) _ (fun w hw => (HP.out w hw).2.2.2.1.range) und_addr rfl (by rw [info_addr, adC_size HAA.out.1])) (by assumption) ?_
      simp only [Act.put, List.setIfInBounds_toArray, List.set_cons_zero, List.set_cons_succ]
      refine wpAnyH_take (i := 17) (oi := { dst := some 56, op := Op.binOp BinOp.eql 29 (Operand.tmp 54) (Operand.tmp 55) 29, type := 4, pos := "law.go:107", after := #[{ on := 15, ground := Ground.data }, { on := 16, ground := Ground.data }, { on := 14, ground := Ground.guard }], guard := some (14, true) }) (v := ?vq17u) rfl (by as_aux_lemma => kernel_rfl) (by as_aux_lemma => kernel_rfl) (by as_aux_lemma => kernel_rfl) (fun _ _ _ h => h) (Or.inl ⟨by rfl, ?yq17u⟩) (by assumption) ?rq17u
      case yq17u => (intro wS hSw; (try dsimp only at hSw); obtain ⟨_, _, _, _, _, kc0, kc1, kc2, kc3⟩ := HP.out wS hSw; go_simp <;> with_reducible rfl)
      simp only [Act.put, List.setIfInBounds_toArray, List.set_cons_zero, List.set_cons_succ]
      refine wpAnyH_take (i := 18) (oi := { dst := some 57, op := Op.pick (Operand.tmp 53) (Operand.tmp 56) (Operand.const (Value.bool false)), type := 4, pos := "law.go:107", after := #[{ on := 14, ground := Ground.data }, { on := 17, ground := Ground.data }], guard := none }) (v := ?vq18u) rfl (by as_aux_lemma => kernel_rfl) (by as_aux_lemma => kernel_rfl) (by as_aux_lemma => kernel_rfl) (fun _ _ _ h => h) (Or.inl ⟨by rfl, ?yq18u⟩) (by assumption) ?rq18u
      case yq18u => (intro wS hSw; (try dsimp only at hSw); obtain ⟨_, _, _, _, _, kc0, kc1, kc2, kc3⟩ := HP.out wS hSw; go_simp <;> with_reducible rfl)
      simp only [Act.put, List.setIfInBounds_toArray, List.set_cons_zero, List.set_cons_succ]
      refine wpAnyH_take (i := 19) (oi := { dst := some 58, op := Op.move (Operand.tmp 57), type := 4, pos := "law.go:107", after := #[{ on := 18, ground := Ground.data }, { on := 14, ground := Ground.chain }], guard := none }) (v := ?vq19u) rfl (by as_aux_lemma => kernel_rfl) (by as_aux_lemma => kernel_rfl) (by as_aux_lemma => kernel_rfl) (fun _ _ _ h => h) (Or.inl ⟨by rfl, ?yq19u⟩) (by assumption) ?rq19u
      case yq19u => (intro wS hSw; (try dsimp only at hSw); obtain ⟨_, _, _, _, _, kc0, kc1, kc2, kc3⟩ := HP.out wS hSw; go_simp <;> with_reducible rfl)
      simp only [Act.put, List.setIfInBounds_toArray, List.set_cons_zero, List.set_cons_succ]
      refine wpAnyH_take (i := 20) (oi := { dst := some 59, op := Op.move (Operand.tmp 10), type := 36, pos := "law.go:107", after := #[{ on := 19, ground := Ground.guard }], guard := some (19, true) }) (v := ?vq20u) rfl (by as_aux_lemma => kernel_rfl) (by as_aux_lemma => kernel_rfl) (by as_aux_lemma => kernel_rfl) (fun _ _ _ h => h) (Or.inl ⟨by rfl, ?yq20u⟩) (by assumption) ?rq20u
      case yq20u => (intro wS hSw; (try dsimp only at hSw); obtain ⟨_, _, _, _, _, kc0, kc1, kc2, kc3⟩ := HP.out wS hSw; go_simp <;> with_reducible rfl)
      simp only [Act.put, List.setIfInBounds_toArray, List.set_cons_zero, List.set_cons_succ]
      refine wpAnyH_take (i := 23) (oi := { dst := some 62, op := Op.move (Operand.tmp 12), type := 4, pos := "law.go:107", after := #[{ on := 19, ground := Ground.guard }], guard := some (19, true) }) (v := ?vq21u) rfl (by as_aux_lemma => kernel_rfl) (by as_aux_lemma => kernel_rfl) (by as_aux_lemma => kernel_rfl) (fun _ _ _ h => h) (Or.inl ⟨by rfl, ?yq21u⟩) (by assumption) ?rq21u
      case yq21u => (intro wS hSw; (try dsimp only at hSw); obtain ⟨_, _, _, _, _, kc0, kc1, kc2, kc3⟩ := HP.out wS hSw; go_simp <;> with_reducible rfl)
      simp only [Act.put, List.setIfInBounds_toArray, List.set_cons_zero, List.set_cons_succ]
      refine wpAnyH_ready (rs := [21]) (by as_aux_lemma => kernel_rfl) (by simp) ?_
      refine AllReadyH.cons (o := { dst := some 60, op := Op.call { callee := Callee.value (Operand.func 13), args := #[Operand.tmp 59], argTypes := #[36] }, type := 3, pos := "law.go:107", after := #[{ on := 20, ground := Ground.data }, { on := 19, ground := Ground.chain }, { on := 19, ground := Ground.guard }], guard := some (19, true) }) rfl (fun K hK => ?_) (by exact AllReadyH.nil)
      rw [if_pos (by rfl)]
      go_simp
      (go_at_call 13; refine (num_any9 _ _).mono ?_; rintro e w8 ⟨rfl, rfl⟩)
      refine hK.out _ _ (by (try dsimp only); (first | exact HS77.out | exact HS73.out | exact HS70.out | exact HS69.out | exact HS67.out | exact HS61.out | exact HS60.out | exact HS55.out | exact HS53.out | exact HS48.out | exact HS46.out | exact HS11.out | exact HS9.out | exact HS5.out | exact HS2.out | exact hS7)) (fun hHeld => ?_)
      clear hK K
      simp only [List.setIfInBounds_toArray, List.set_cons_zero, List.set_cons_succ]
      refine wpAnyH_take (i := 22) (oi := { dst := some 61, op := Op.binOp BinOp.eql 3 (Operand.tmp 60) (Operand.const (Value.int IntKind.i64 0)) 3, type := 4, pos := "law.go:107", after := #[{ on := 21, ground := Ground.data }, { on := 19, ground := Ground.guard }], guard := some (19, true) }) (v := ?vq23u) rfl (by as_aux_lemma => kernel_rfl) (by as_aux_lemma => kernel_rfl) (by as_aux_lemma => kernel_rfl) (fun _ _ _ h => h) (Or.inl ⟨by rfl, ?yq23u⟩) (by assumption) ?rq23u
      case yq23u => (intro wS hSw; (try dsimp only at hSw); obtain ⟨_, _, _, _, _, kc0, kc1, kc2, kc3⟩ := HP.out wS hSw; go_simp <;> with_reducible rfl)
      simp only [Act.put, List.setIfInBounds_toArray, List.set_cons_zero, List.set_cons_succ]
      refine wpAnyH_take (i := 24) (oi := { dst := some 63, op := Op.binOp BinOp.eql 4 (Operand.tmp 61) (Operand.tmp 62) 4, type := 4, pos := "law.go:107", after := #[{ on := 22, ground := Ground.data }, { on := 23, ground := Ground.data }, { on := 19, ground := Ground.guard }], guard := some (19, true) }) (v := ?vq24u) rfl (by as_aux_lemma => kernel_rfl) (by as_aux_lemma => kernel_rfl) (by as_aux_lemma => kernel_rfl) (fun _ _ _ h => h) (Or.inl ⟨by rfl, ?yq24u⟩) (by assumption) ?rq24u
      case yq24u => (intro wS hSw; (try dsimp only at hSw); obtain ⟨_, _, _, _, _, kc0, kc1, kc2, kc3⟩ := HP.out wS hSw; go_simp <;> with_reducible rfl)
      simp only [Act.put, List.setIfInBounds_toArray, List.set_cons_zero, List.set_cons_succ]
      refine wpAnyH_take (i := 25) (oi := { dst := some 64, op := Op.pick (Operand.tmp 58) (Operand.tmp 63) (Operand.const (Value.bool false)), type := 4, pos := "law.go:107", after := #[{ on := 19, ground := Ground.data }, { on := 24, ground := Ground.data }], guard := none }) (v := ?vq25u) rfl (by as_aux_lemma => kernel_rfl) (by as_aux_lemma => kernel_rfl) (by as_aux_lemma => kernel_rfl) (fun _ _ _ h => h) (Or.inl ⟨by rfl, ?yq25u⟩) (by assumption) ?rq25u
      case yq25u => (intro wS hSw; (try dsimp only at hSw); obtain ⟨_, _, _, _, _, kc0, kc1, kc2, kc3⟩ := HP.out wS hSw; go_simp <;> with_reducible rfl)
      simp only [Act.put, List.setIfInBounds_toArray, List.set_cons_zero, List.set_cons_succ]
      refine wpAnyH_take (i := 26) (oi := { dst := some 65, op := Op.move (Operand.tmp 64), type := 4, pos := "law.go:107", after := #[{ on := 25, ground := Ground.data }, { on := 21, ground := Ground.chain }], guard := none }) (v := ?vq26u) rfl (by as_aux_lemma => kernel_rfl) (by as_aux_lemma => kernel_rfl) (by as_aux_lemma => kernel_rfl) (fun _ _ _ h => h) (Or.inl ⟨by rfl, ?yq26u⟩) (by assumption) ?rq26u
      case yq26u => (intro wS hSw; (try dsimp only at hSw); obtain ⟨_, _, _, _, _, kc0, kc1, kc2, kc3⟩ := HP.out wS hSw; go_simp <;> with_reducible rfl)
      simp only [Act.put, List.setIfInBounds_toArray, List.set_cons_zero, List.set_cons_succ]
      refine wpAnyH_take (i := 27) (oi := { dst := some 66, op := Op.move (Operand.tmp 12), type := 4, pos := "law.go:107", after := #[{ on := 26, ground := Ground.guard }], guard := some (26, true) }) (v := ?vq27u) rfl (by as_aux_lemma => kernel_rfl) (by as_aux_lemma => kernel_rfl) (by as_aux_lemma => kernel_rfl) (fun _ _ _ h => h) (Or.inl ⟨by rfl, ?yq27u⟩) (by assumption) ?rq27u
      case yq27u => (intro wS hSw; (try dsimp only at hSw); obtain ⟨_, _, _, _, _, kc0, kc1, kc2, kc3⟩ := HP.out wS hSw; go_simp <;> with_reducible rfl)
      simp only [Act.put, List.setIfInBounds_toArray, List.set_cons_zero, List.set_cons_succ]
      refine wpAnyH_take (i := 28) (oi := { dst := some 67, op := Op.move (Operand.tmp 66), type := 4, pos := "law.go:107", after := #[{ on := 27, ground := Ground.data }, { on := 26, ground := Ground.chain }, { on := 26, ground := Ground.guard }], guard := some (26, true) }) (v := ?vq28u) rfl (by as_aux_lemma => kernel_rfl) (by as_aux_lemma => kernel_rfl) (by as_aux_lemma => kernel_rfl) (fun _ _ _ h => h) (Or.inl ⟨by rfl, ?yq28u⟩) (by assumption) ?rq28u
      case yq28u => (intro wS hSw; (try dsimp only at hSw); obtain ⟨_, _, _, _, _, kc0, kc1, kc2, kc3⟩ := HP.out wS hSw; go_simp <;> with_reducible rfl)
      simp only [Act.put, List.setIfInBounds_toArray, List.set_cons_zero, List.set_cons_succ]
      refine wpAnyH_take (i := 29) (oi := { dst := some 68, op := Op.move (Operand.tmp 10), type := 36, pos := "law.go:107", after := #[{ on := 28, ground := Ground.guard }], guard := some (28, false) }) (v := ?vq29u) rfl (by as_aux_lemma => kernel_rfl) (by as_aux_lemma => kernel_rfl) (by as_aux_lemma => kernel_rfl) (fun _ _ _ h => h) (Or.inl ⟨by rfl, ?yq29u⟩) (by assumption) ?rq29u
      case yq29u => (intro wS hSw; (try dsimp only at hSw); obtain ⟨_, _, _, _, _, kc0, kc1, kc2, kc3⟩ := HP.out wS hSw; go_simp <;> with_reducible rfl)
      simp only [Act.put, List.setIfInBounds_toArray, List.set_cons_zero, List.set_cons_succ]
      refine wpAnyH_ready (rs := [30]) (by as_aux_lemma => kernel_rfl) (by simp) ?_
      refine AllReadyH.cons (o := { dst := some 69, op := Op.call { callee := Callee.value (Operand.func 13), args := #[Operand.tmp 68], argTypes := #[36] }, type := 3, pos := "law.go:107", after := #[{ on := 29, ground := Ground.data }, { on := 28, ground := Ground.chain }, { on := 28, ground := Ground.guard }], guard := some (28, false) }) rfl (fun K hK => ?_) (by exact AllReadyH.nil)
      rw [if_pos (by rfl)]
      go_simp
      (go_at_call 13; refine (num_any9 _ _).mono ?_; rintro e w8 ⟨rfl, rfl⟩)
      refine hK.out _ _ (by (try dsimp only); (first | exact HS77.out | exact HS73.out | exact HS70.out | exact HS69.out | exact HS67.out | exact HS61.out | exact HS60.out | exact HS55.out | exact HS53.out | exact HS48.out | exact HS46.out | exact HS11.out | exact HS9.out | exact HS5.out | exact HS2.out | exact hS7)) (fun hHeld => ?_)
      clear hK K
      simp only [List.setIfInBounds_toArray, List.set_cons_zero, List.set_cons_succ]
      refine wpAnyH_take (i := 31) (oi := { dst := some 70, op := Op.binOp BinOp.eql 3 (Operand.tmp 69) (Operand.const (Value.int IntKind.i64 190)) 3, type := 4, pos := "law.go:107", after := #[{ on := 30, ground := Ground.data }, { on := 28, ground := Ground.guard }], guard := some (28, false) }) (v := ?vq31u) rfl (by as_aux_lemma => kernel_rfl) (by as_aux_lemma => kernel_rfl) (by as_aux_lemma => kernel_rfl) (fun _ _ _ h => h) (Or.inl ⟨by rfl, ?yq31u⟩) (by assumption) ?rq31u
      case yq31u => (intro wS hSw; (try dsimp only at hSw); obtain ⟨_, _, _, _, _, kc0, kc1, kc2, kc3⟩ := HP.out wS hSw; go_simp <;> with_reducible rfl)
      simp only [Act.put, List.setIfInBounds_toArray, List.set_cons_zero, List.set_cons_succ]
      refine wpAnyH_take (i := 32) (oi := { dst := some 71, op := Op.pick (Operand.tmp 67) (Operand.const (Value.bool true)) (Operand.tmp 70), type := 4, pos := "law.go:107", after := #[{ on := 28, ground := Ground.data }, { on := 31, ground := Ground.data }, { on := 26, ground := Ground.guard }], guard := some (26, true) }) (v := ?vq32u) rfl (by as_aux_lemma => kernel_rfl) (by as_aux_lemma => kernel_rfl) (by as_aux_lemma => kernel_rfl) (fun _ _ _ h => h) (Or.inl ⟨by rfl, ?yq32u⟩) (by assumption) ?rq32u
      case yq32u => (intro wS hSw; (try dsimp only at hSw); obtain ⟨_, _, _, _, _, kc0, kc1, kc2, kc3⟩ := HP.out wS hSw; go_simp <;> with_reducible rfl)
      simp only [Act.put, List.setIfInBounds_toArray, List.set_cons_zero, List.set_cons_succ]
      refine wpAnyH_take (i := 33) (oi := { dst := some 72, op := Op.pick (Operand.tmp 65) (Operand.tmp 71) (Operand.const (Value.bool false)), type := 4, pos := "law.go:107", after := #[{ on := 26, ground := Ground.data }, { on := 32, ground := Ground.data }], guard := none }) (v := ?vq33u) rfl (by as_aux_lemma => kernel_rfl) (by as_aux_lemma => kernel_rfl) (by as_aux_lemma => kernel_rfl) (fun _ _ _ h => h) (Or.inl ⟨by rfl, ?yq33u⟩) (by assumption) ?rq33u
      case yq33u => (intro wS hSw; (try dsimp only at hSw); obtain ⟨_, _, _, _, _, kc0, kc1, kc2, kc3⟩ := HP.out wS hSw; go_simp <;> with_reducible rfl)
      simp only [Act.put, List.setIfInBounds_toArray, List.set_cons_zero, List.set_cons_succ]
      refine wpAnyH_take (i := 34) (oi := { dst := some 73, op := Op.move (Operand.tmp 72), type := 4, pos := "law.go:107", after := #[{ on := 33, ground := Ground.data }, { on := 30, ground := Ground.chain }], guard := none }) (v := ?vq34u) rfl (by as_aux_lemma => kernel_rfl) (by as_aux_lemma => kernel_rfl) (by as_aux_lemma => kernel_rfl) (fun _ _ _ h => h) (Or.inl ⟨by rfl, ?yq34u⟩) (by assumption) ?rq34u
      case yq34u => (intro wS hSw; (try dsimp only at hSw); obtain ⟨_, _, _, _, _, kc0, kc1, kc2, kc3⟩ := HP.out wS hSw; go_simp <;> with_reducible rfl)
      simp only [Act.put, List.setIfInBounds_toArray, List.set_cons_zero, List.set_cons_succ]
      refine wpAnyH_take (i := 35) (oi := { dst := some 74, op := Op.load 29 (Operand.tmp 13), type := 29, pos := "law.go:107", after := #[{ on := 34, ground := Ground.guard }], guard := some (34, true) }) (v := .agg (adC a)) rfl (by as_aux_lemma => kernel_rfl) (by as_aux_lemma => kernel_rfl) (by as_aux_lemma => kernel_rfl) (fun _ _ _ h => h) (yieldsIf_load_A (by rfl) 29 (.tmp 13) rfl (p3) (0) rfl (adC a) _ (fun w hw => (HP.out w hw).2.2.2.2.1.range) und_addr rfl (by rw [info_addr, adC_size HA.out.1])) (by assumption) ?_
      simp only [Act.put, List.setIfInBounds_toArray, List.set_cons_zero, List.set_cons_succ]
      refine wpAnyH_take (i := 36) (oi := { dst := some 75, op := Op.load 29 (Operand.tmp 7), type := 29, pos := "law.go:107", after := #[{ on := 34, ground := Ground.guard }], guard := some (34, true) }) (v := .agg (adC a)) rfl (by as_aux_lemma => kernel_rfl) (by as_aux_lemma => kernel_rfl) (by as_aux_lemma => kernel_rfl) (fun _ _ _ h => h) (yieldsIf_load_A (by rfl) 29 (.tmp 7) rfl (gp) (0) rfl (adC a) _ (fun w hw => (HP.out w hw).1.range) und_addr rfl (by rw [info_addr, adC_size HA.out.1])) (by assumption) ?_
      simp only [Act.put, List.setIfInBounds_toArray, List.set_cons_zero, List.set_cons_succ]
      refine wpAnyH_take (i := 37) (oi := { dst := some 76, op := Op.binOp BinOp.eql 29 (Operand.tmp 74) (Operand.tmp 75) 29, type := 4, pos := "law.go:107", after := #[{ on := 35, ground := Ground.data }, { on := 36, ground := Ground.data }, { on := 34, ground := Ground.guard }], guard := some (34, true) }) (v := ?vq37u) rfl (by as_aux_lemma => kernel_rfl) (by as_aux_lemma => kernel_rfl) (by as_aux_lemma => kernel_rfl) (fun _ _ _ h => h) (Or.inl ⟨by rfl, ?yq37u⟩) (by assumption) ?rq37u
      case yq37u => (intro wS hSw; (try dsimp only at hSw); obtain ⟨_, _, _, _, _, kc0, kc1, kc2, kc3⟩ := HP.out wS hSw; go_simp <;> with_reducible rfl)
      simp only [Act.put, List.setIfInBounds_toArray, List.set_cons_zero, List.set_cons_succ]
      refine wpAnyH_take (i := 38) (oi := { dst := some 77, op := Op.pick (Operand.tmp 73) (Operand.tmp 76) (Operand.const (Value.bool false)), type := 4, pos := "law.go:107", after := #[{ on := 34, ground := Ground.data }, { on := 37, ground := Ground.data }], guard := none }) (v := ?vq38u) rfl (by as_aux_lemma => kernel_rfl) (by as_aux_lemma => kernel_rfl) (by as_aux_lemma => kernel_rfl) (fun _ _ _ h => h) (Or.inl ⟨by rfl, ?yq38u⟩) (by assumption) ?rq38u
      case yq38u => (intro wS hSw; (try dsimp only at hSw); obtain ⟨_, _, _, _, _, kc0, kc1, kc2, kc3⟩ := HP.out wS hSw; go_simp <;> with_reducible rfl)
      simp only [Act.put, List.setIfInBounds_toArray, List.set_cons_zero, List.set_cons_succ]
      refine wpAnyH_take (i := 39) (oi := { dst := some 78, op := Op.move (Operand.tmp 77), type := 4, pos := "law.go:107", after := #[{ on := 38, ground := Ground.data }, { on := 34, ground := Ground.chain }], guard := none }) (v := ?vq39u) rfl (by as_aux_lemma => kernel_rfl) (by as_aux_lemma => kernel_rfl) (by as_aux_lemma => kernel_rfl) (fun _ _ _ h => h) (Or.inl ⟨by rfl, ?yq39u⟩) (by assumption) ?rq39u
      case yq39u => (intro wS hSw; (try dsimp only at hSw); obtain ⟨_, _, _, _, _, kc0, kc1, kc2, kc3⟩ := HP.out wS hSw; go_simp <;> with_reducible rfl)
      simp only [Act.put, List.setIfInBounds_toArray, List.set_cons_zero, List.set_cons_succ]
      refine wpAnyH_take (i := 40) (oi := { dst := some 79, op := Op.move (Operand.tmp 14), type := 36, pos := "law.go:107", after := #[{ on := 39, ground := Ground.guard }], guard := some (39, true) }) (v := ?vq40u) rfl (by as_aux_lemma => kernel_rfl) (by as_aux_lemma => kernel_rfl) (by as_aux_lemma => kernel_rfl) (fun _ _ _ h => h) (Or.inl ⟨by rfl, ?yq40u⟩) (by assumption) ?rq40u
      case yq40u => (intro wS hSw; (try dsimp only at hSw); obtain ⟨_, _, _, _, _, kc0, kc1, kc2, kc3⟩ := HP.out wS hSw; go_simp <;> with_reducible rfl)
      simp only [Act.put, List.setIfInBounds_toArray, List.set_cons_zero, List.set_cons_succ]
      refine wpAnyH_ready (rs := [41]) (by as_aux_lemma => kernel_rfl) (by simp) ?_
      refine AllReadyH.cons (o := { dst := some 80, op := Op.call { callee := Callee.value (Operand.func 13), args := #[Operand.tmp 79], argTypes := #[36] }, type := 3, pos := "law.go:107", after := #[{ on := 40, ground := Ground.data }, { on := 39, ground := Ground.chain }, { on := 39, ground := Ground.guard }], guard := some (39, true) }) rfl (fun K hK => ?_) (by exact AllReadyH.nil)
      rw [if_pos (by rfl)]
      go_simp
      (go_at_call 13; refine (num_any9 _ _).mono ?_; rintro e w8 ⟨rfl, rfl⟩)
      refine hK.out _ _ (by (try dsimp only); (first | exact HS77.out | exact HS73.out | exact HS70.out | exact HS69.out | exact HS67.out | exact HS61.out | exact HS60.out | exact HS55.out | exact HS53.out | exact HS48.out | exact HS46.out | exact HS11.out | exact HS9.out | exact HS5.out | exact HS2.out | exact hS7)) (fun hHeld => ?_)
      clear hK K
      simp only [List.setIfInBounds_toArray, List.set_cons_zero, List.set_cons_succ]
      refine wpAnyH_take (i := 42) (oi := { dst := some 81, op := Op.binOp BinOp.eql 3 (Operand.tmp 80) (Operand.const (Value.int IntKind.i64 0)) 3, type := 4, pos := "law.go:107", after := #[{ on := 41, ground := Ground.data }, { on := 39, ground := Ground.guard }], guard := some (39, true) }) (v := ?vq42u) rfl (by as_aux_lemma => kernel_rfl) (by as_aux_lemma => kernel_rfl) (by as_aux_lemma => kernel_rfl) (fun _ _ _ h => h) (Or.inl ⟨by rfl, ?yq42u⟩) (by assumption) ?rq42u
      case yq42u => (intro wS hSw; (try dsimp only at hSw); obtain ⟨_, _, _, _, _, kc0, kc1, kc2, kc3⟩ := HP.out wS hSw; go_simp <;> with_reducible rfl)
      simp only [Act.put, List.setIfInBounds_toArray, List.set_cons_zero, List.set_cons_succ]
      refine wpAnyH_take (i := 43) (oi := { dst := some 82, op := Op.pick (Operand.tmp 78) (Operand.tmp 81) (Operand.const (Value.bool false)), type := 4, pos := "law.go:107", after := #[{ on := 39, ground := Ground.data }, { on := 42, ground := Ground.data }], guard := none }) (v := ?vq43u) rfl (by as_aux_lemma => kernel_rfl) (by as_aux_lemma => kernel_rfl) (by as_aux_lemma => kernel_rfl) (fun _ _ _ h => h) (Or.inl ⟨by rfl, ?yq43u⟩) (by assumption) ?rq43u
      case yq43u => (intro wS hSw; (try dsimp only at hSw); obtain ⟨_, _, _, _, _, kc0, kc1, kc2, kc3⟩ := HP.out wS hSw; go_simp <;> with_reducible rfl)
      simp only [Act.put, List.setIfInBounds_toArray, List.set_cons_zero, List.set_cons_succ]
      refine wpAnyH_take (i := 44) (oi := { dst := some 83, op := Op.move (Operand.tmp 82), type := 4, pos := "law.go:107", after := #[{ on := 43, ground := Ground.data }, { on := 41, ground := Ground.chain }], guard := none }) (v := ?vq44u) rfl (by as_aux_lemma => kernel_rfl) (by as_aux_lemma => kernel_rfl) (by as_aux_lemma => kernel_rfl) (fun _ _ _ h => h) (Or.inl ⟨by rfl, ?yq44u⟩) (by assumption) ?rq44u
      case yq44u => (intro wS hSw; (try dsimp only at hSw); obtain ⟨_, _, _, _, _, kc0, kc1, kc2, kc3⟩ := HP.out wS hSw; go_simp <;> with_reducible rfl)
      simp only [Act.put, List.setIfInBounds_toArray, List.set_cons_zero, List.set_cons_succ]
      refine wpAnyH_take (i := 45) (oi := { dst := some 84, op := Op.load 29 (Operand.tmp 7), type := 29, pos := "law.go:107", after := #[{ on := 44, ground := Ground.guard }], guard := some (44, true) }) (v := .agg (adC a)) rfl (by as_aux_lemma => kernel_rfl) (by as_aux_lemma => kernel_rfl) (by as_aux_lemma => kernel_rfl) (fun _ _ _ h => h) (yieldsIf_load_A (by rfl) 29 (.tmp 7) rfl (gp) (0) rfl (adC a) _ (fun w hw => (HP.out w hw).1.range) und_addr rfl (by rw [info_addr, adC_size HA.out.1])) (by assumption) ?_
      simp only [Act.put, List.setIfInBounds_toArray, List.set_cons_zero, List.set_cons_succ]
      refine wpAnyH_take (i := 47) (oi := { dst := some 86, op := Op.load 29 (Operand.tmp 7), type := 29, pos := "law.go:107", after := #[{ on := 44, ground := Ground.guard }], guard := some (44, true) }) (v := .agg (adC a)) rfl (by as_aux_lemma => kernel_rfl) (by as_aux_lemma => kernel_rfl) (by as_aux_lemma => kernel_rfl) (fun _ _ _ h => h) (yieldsIf_load_A (by rfl) 29 (.tmp 7) rfl (gp) (0) rfl (adC a) _ (fun w hw => (HP.out w hw).1.range) und_addr rfl (by rw [info_addr, adC_size HA.out.1])) (by assumption) ?_
      simp only [Act.put, List.setIfInBounds_toArray, List.set_cons_zero, List.set_cons_succ]
      refine wpAnyH_ready (rs := [46]) (by as_aux_lemma => kernel_rfl) (by simp) ?_
      refine AllReadyH.cons (o := { dst := some 85, op := Op.call { callee := Callee.value (Operand.func 32), args := #[Operand.tmp 84], argTypes := #[29] }, type := 58, pos := "law.go:107", after := #[{ on := 45, ground := Ground.data }, { on := 44, ground := Ground.chain }, { on := 44, ground := Ground.guard }], guard := some (44, true) }) rfl (fun K hK => ?_) (by exact AllReadyH.nil)
      rw [if_pos (by rfl)]
      go_simp
      (go_at_call 32; refine (HWa.out _).mono ?_; rintro e z46 ⟨rfl, u46⟩)
      have HS46 := Lib.hid (show Below V3.heap.size V3 z46 from (HS11.out).trans (u46.mono (HS11.out).size))
      clear u46
      refine hK.out _ _ (by (try dsimp only); (first | exact HS77.out | exact HS73.out | exact HS70.out | exact HS69.out | exact HS67.out | exact HS61.out | exact HS60.out | exact HS55.out | exact HS53.out | exact HS48.out | exact HS46.out | exact HS11.out | exact HS9.out | exact HS5.out | exact HS2.out | exact hS7)) (fun hHeld => ?_)
      clear hK K
      simp only [List.setIfInBounds_toArray, List.set_cons_zero, List.set_cons_succ]
      refine wpAnyH_ready (rs := [48]) (by as_aux_lemma => kernel_rfl) (by simp) ?_
      refine AllReadyH.cons (o := { dst := some 87, op := Op.call { callee := Callee.value (Operand.func 33), args := #[Operand.tmp 86], argTypes := #[29] }, type := 58, pos := "law.go:107", after := #[{ on := 47, ground := Ground.data }, { on := 46, ground := Ground.chain }, { on := 44, ground := Ground.guard }], guard := some (44, true) }) rfl (fun K hK => ?_) (by exact AllReadyH.nil)
      rw [if_pos (by rfl)]
      go_simp
      (go_at_call 33; refine (HRW.out _).mono ?_; rintro e z48 ⟨rfl, u48⟩)
      have HS48 := Lib.hid (show Below V3.heap.size V3 z48 from (HS46.out).trans (u48.mono (HS46.out).size))
      clear u48
      refine hK.out _ _ (by (try dsimp only); (first | exact HS77.out | exact HS73.out | exact HS70.out | exact HS69.out | exact HS67.out | exact HS61.out | exact HS60.out | exact HS55.out | exact HS53.out | exact HS48.out | exact HS46.out | exact HS11.out | exact HS9.out | exact HS5.out | exact HS2.out | exact hS7)) (fun hHeld => ?_)
      clear hK K
      simp only [List.setIfInBounds_toArray, List.set_cons_zero, List.set_cons_succ]
      refine wpAnyH_take (i := 49) (oi := { dst := some 88, op := Op.binOp BinOp.eql 58 (Operand.tmp 85) (Operand.tmp 87) 58, type := 4, pos := "law.go:107", after := #[{ on := 46, ground := Ground.data }, { on := 48, ground := Ground.data }, { on := 44, ground := Ground.guard }], guard := some (44, true) }) (v := ?vq49u) rfl (by as_aux_lemma => kernel_rfl) (by as_aux_lemma => kernel_rfl) (by as_aux_lemma => kernel_rfl) (fun _ _ _ h => h) (Or.inl ⟨by rfl, ?yq49u⟩) (by assumption) ?rq49u
      case yq49u => (intro wS hSw; (try dsimp only at hSw); obtain ⟨_, _, _, _, _, kc0, kc1, kc2, kc3⟩ := HP.out wS hSw; go_simp <;> with_reducible rfl)
      simp only [Act.put, List.setIfInBounds_toArray, List.set_cons_zero, List.set_cons_succ]
      refine wpAnyH_take (i := 50) (oi := { dst := some 89, op := Op.pick (Operand.tmp 83) (Operand.tmp 88) (Operand.const (Value.bool false)), type := 4, pos := "law.go:107", after := #[{ on := 44, ground := Ground.data }, { on := 49, ground := Ground.data }], guard := none }) (v := ?vq50u) rfl (by as_aux_lemma => kernel_rfl) (by as_aux_lemma => kernel_rfl) (by as_aux_lemma => kernel_rfl) (fun _ _ _ h => h) (Or.inl ⟨by rfl, ?yq50u⟩) (by assumption) ?rq50u
      case yq50u => (intro wS hSw; (try dsimp only at hSw); obtain ⟨_, _, _, _, _, kc0, kc1, kc2, kc3⟩ := HP.out wS hSw; go_simp <;> with_reducible rfl)
      simp only [Act.put, List.setIfInBounds_toArray, List.set_cons_zero, List.set_cons_succ]
      refine wpAnyH_take (i := 51) (oi := { dst := some 90, op := Op.move (Operand.tmp 89), type := 4, pos := "law.go:107", after := #[{ on := 50, ground := Ground.data }, { on := 48, ground := Ground.chain }], guard := none }) (v := ?vq51u) rfl (by as_aux_lemma => kernel_rfl) (by as_aux_lemma => kernel_rfl) (by as_aux_lemma => kernel_rfl) (fun _ _ _ h => h) (Or.inl ⟨by rfl, ?yq51u⟩) (by assumption) ?rq51u
      case yq51u => (intro wS hSw; (try dsimp only at hSw); obtain ⟨_, _, _, _, _, kc0, kc1, kc2, kc3⟩ := HP.out wS hSw; go_simp <;> with_reducible rfl)
      simp only [Act.put, List.setIfInBounds_toArray, List.set_cons_zero, List.set_cons_succ]
      refine wpAnyH_take (i := 52) (oi := { dst := some 91, op := Op.load 58 (Operand.tmp 5), type := 58, pos := "law.go:107", after := #[{ on := 51, ground := Ground.guard }], guard := some (51, true) }) (v := ?vq52u) rfl (by as_aux_lemma => kernel_rfl) (by as_aux_lemma => kernel_rfl) (by as_aux_lemma => kernel_rfl) (fun _ _ _ h => h) (Or.inl ⟨by rfl, ?yq52u⟩) (by assumption) ?rq52u
      case yq52u => (intro wS hSw; (try dsimp only at hSw); obtain ⟨_, _, _, _, _, kc0, kc1, kc2, kc3⟩ := HP.out wS hSw; go_simp <;> with_reducible rfl)
      simp only [Act.put, List.setIfInBounds_toArray, List.set_cons_zero, List.set_cons_succ]
      refine wpAnyH_take (i := 54) (oi := { dst := some 93, op := Op.load 58 (Operand.tmp 5), type := 58, pos := "law.go:107", after := #[{ on := 51, ground := Ground.guard }], guard := some (51, true) }) (v := ?vq53u) rfl (by as_aux_lemma => kernel_rfl) (by as_aux_lemma => kernel_rfl) (by as_aux_lemma => kernel_rfl) (fun _ _ _ h => h) (Or.inl ⟨by rfl, ?yq53u⟩) (by assumption) ?rq53u
      case yq53u => (intro wS hSw; (try dsimp only at hSw); obtain ⟨_, _, _, _, _, kc0, kc1, kc2, kc3⟩ := HP.out wS hSw; go_simp <;> with_reducible rfl)
      simp only [Act.put, List.setIfInBounds_toArray, List.set_cons_zero, List.set_cons_succ]
      refine wpAnyH_ready (rs := [53]) (by as_aux_lemma => kernel_rfl) (by simp) ?_
      refine AllReadyH.cons (o := { dst := some 92, op := Op.call { callee := Callee.value (Operand.func 34), args := #[Operand.tmp 91], argTypes := #[58] }, type := 29, pos := "law.go:107", after := #[{ on := 52, ground := Ground.data }, { on := 51, ground := Ground.chain }, { on := 51, ground := Ground.guard }], guard := some (51, true) }) rfl (fun K hK => ?_) (by exact AllReadyH.nil)
      rw [if_pos (by rfl)]
      go_simp
      (go_at_call 34; refine (HF1.out _).mono ?_; rintro e z53 ⟨rfl, u53⟩)
      have HS53 := Lib.hid (show Below V3.heap.size V3 z53 from (HS48.out).trans (u53.mono (HS48.out).size))
      clear u53
      refine hK.out _ _ (by (try dsimp only); (first | exact HS77.out | exact HS73.out | exact HS70.out | exact HS69.out | exact HS67.out | exact HS61.out | exact HS60.out | exact HS55.out | exact HS53.out | exact HS48.out | exact HS46.out | exact HS11.out | exact HS9.out | exact HS5.out | exact HS2.out | exact hS7)) (fun hHeld => ?_)
      clear hK K
      simp only [List.setIfInBounds_toArray, List.set_cons_zero, List.set_cons_succ]
      refine wpAnyH_ready (rs := [55]) (by as_aux_lemma => kernel_rfl) (by simp) ?_
      refine AllReadyH.cons (o := { dst := some 94, op := Op.call { callee := Callee.value (Operand.func 35), args := #[Operand.tmp 93], argTypes := #[58] }, type := 29, pos := "law.go:107", after := #[{ on := 54, ground := Ground.data }, { on := 53, ground := Ground.chain }, { on := 51, ground := Ground.guard }], guard := some (51, true) }) rfl (fun K hK => ?_) (by exact AllReadyH.nil)
      rw [if_pos (by rfl)]
      go_simp
      (go_at_call 35; refine (HF2.out _).mono ?_; rintro e z55 ⟨rfl, u55⟩)
      have HS55 := Lib.hid (show Below V3.heap.size V3 z55 from (HS53.out).trans (u55.mono (HS53.out).size))
      clear u55
      refine hK.out _ _ (by (try dsimp only); (first | exact HS77.out | exact HS73.out | exact HS70.out | exact HS69.out | exact HS67.out | exact HS61.out | exact HS60.out | exact HS55.out | exact HS53.out | exact HS48.out | exact HS46.out | exact HS11.out | exact HS9.out | exact HS5.out | exact HS2.out | exact hS7)) (fun hHeld => ?_)
      clear hK K
      simp only [List.setIfInBounds_toArray, List.set_cons_zero, List.set_cons_succ]
      refine wpAnyH_take (i := 56) (oi := { dst := some 95, op := Op.binOp BinOp.eql 29 (Operand.tmp 92) (Operand.tmp 94) 29, type := 4, pos := "law.go:107", after := #[{ on := 53, ground := Ground.data }, { on := 55, ground := Ground.data }, { on := 51, ground := Ground.guard }], guard := some (51, true) }) (v := ?vq56u) rfl (by as_aux_lemma => kernel_rfl) (by as_aux_lemma => kernel_rfl) (by as_aux_lemma => kernel_rfl) (fun _ _ _ h => h) (Or.inl ⟨by rfl, ?yq56u⟩) (by assumption) ?rq56u
      case yq56u => (intro wS hSw; (try dsimp only at hSw); obtain ⟨_, _, _, _, _, kc0, kc1, kc2, kc3⟩ := HP.out wS hSw; go_simp <;> with_reducible rfl)
      simp only [Act.put, List.setIfInBounds_toArray, List.set_cons_zero, List.set_cons_succ]
      refine wpAnyH_take (i := 57) (oi := { dst := some 96, op := Op.pick (Operand.tmp 90) (Operand.tmp 95) (Operand.const (Value.bool false)), type := 4, pos := "law.go:107", after := #[{ on := 51, ground := Ground.data }, { on := 56, ground := Ground.data }], guard := none }) (v := ?vq57u) rfl (by as_aux_lemma => kernel_rfl) (by as_aux_lemma => kernel_rfl) (by as_aux_lemma => kernel_rfl) (fun _ _ _ h => h) (Or.inl ⟨by rfl, ?yq57u⟩) (by assumption) ?rq57u
      case yq57u => (intro wS hSw; (try dsimp only at hSw); obtain ⟨_, _, _, _, _, kc0, kc1, kc2, kc3⟩ := HP.out wS hSw; go_simp <;> with_reducible rfl)
      simp only [Act.put, List.setIfInBounds_toArray, List.set_cons_zero, List.set_cons_succ]
      refine wpAnyH_take (i := 58) (oi := { dst := some 97, op := Op.move (Operand.tmp 96), type := 4, pos := "law.go:107", after := #[{ on := 57, ground := Ground.data }, { on := 55, ground := Ground.chain }], guard := none }) (v := ?vq58u) rfl (by as_aux_lemma => kernel_rfl) (by as_aux_lemma => kernel_rfl) (by as_aux_lemma => kernel_rfl) (fun _ _ _ h => h) (Or.inl ⟨by rfl, ?yq58u⟩) (by assumption) ?rq58u
      case yq58u => (intro wS hSw; (try dsimp only at hSw); obtain ⟨_, _, _, _, _, kc0, kc1, kc2, kc3⟩ := HP.out wS hSw; go_simp <;> with_reducible rfl)
      simp only [Act.put, List.setIfInBounds_toArray, List.set_cons_zero, List.set_cons_succ]
      refine wpAnyH_take (i := 59) (oi := { dst := some 98, op := Op.load 29 (Operand.tmp 7), type := 29, pos := "law.go:107", after := #[{ on := 58, ground := Ground.guard }], guard := some (58, true) }) (v := .agg (adC a)) rfl (by as_aux_lemma => kernel_rfl) (by as_aux_lemma => kernel_rfl) (by as_aux_lemma => kernel_rfl) (fun _ _ _ h => h) (yieldsIf_load_A (by rfl) 29 (.tmp 7) rfl (gp) (0) rfl (adC a) _ (fun w hw => (HP.out w hw).1.range) und_addr rfl (by rw [info_addr, adC_size HA.out.1])) (by assumption) ?_
      simp only [Act.put, List.setIfInBounds_toArray, List.set_cons_zero, List.set_cons_succ]
      refine wpAnyH_take (i := 62) (oi := { dst := some 101, op := Op.load 29 (Operand.tmp 7), type := 29, pos := "law.go:107", after := #[{ on := 58, ground := Ground.guard }], guard := some (58, true) }) (v := .agg (adC a)) rfl (by as_aux_lemma => kernel_rfl) (by as_aux_lemma => kernel_rfl) (by as_aux_lemma => kernel_rfl) (fun _ _ _ h => h) (yieldsIf_load_A (by rfl) 29 (.tmp 7) rfl (gp) (0) rfl (adC a) _ (fun w hw => (HP.out w hw).1.range) und_addr rfl (by rw [info_addr, adC_size HA.out.1])) (by assumption) ?_
      simp only [Act.put, List.setIfInBounds_toArray, List.set_cons_zero, List.set_cons_succ]
      refine wpAnyH_ready (rs := [60]) (by as_aux_lemma => kernel_rfl) (by simp) ?_
      refine AllReadyH.cons (o := { dst := some 99, op := Op.call { callee := Callee.value (Operand.func 32), args := #[Operand.tmp 98], argTypes := #[29] }, type := 58, pos := "law.go:107", after := #[{ on := 59, ground := Ground.data }, { on := 58, ground := Ground.chain }, { on := 58, ground := Ground.guard }], guard := some (58, true) }) rfl (fun K hK => ?_) (by exact AllReadyH.nil)
      rw [if_pos (by rfl)]
      go_simp
      (go_at_call 32; refine (HWa.out _).mono ?_; rintro e z60 ⟨rfl, u60⟩)
      have HS60 := Lib.hid (show Below V3.heap.size V3 z60 from (HS55.out).trans (u60.mono (HS55.out).size))
      clear u60
      refine hK.out _ _ (by (try dsimp only); (first | exact HS77.out | exact HS73.out | exact HS70.out | exact HS69.out | exact HS67.out | exact HS61.out | exact HS60.out | exact HS55.out | exact HS53.out | exact HS48.out | exact HS46.out | exact HS11.out | exact HS9.out | exact HS5.out | exact HS2.out | exact hS7)) (fun hHeld => ?_)
      clear hK K
      simp only [List.setIfInBounds_toArray, List.set_cons_zero, List.set_cons_succ]
      refine wpAnyH_ready (rs := [61]) (by as_aux_lemma => kernel_rfl) (by simp) ?_
      refine AllReadyH.cons (o := { dst := some 100, op := Op.call { callee := Callee.value (Operand.func 34), args := #[Operand.tmp 99], argTypes := #[58] }, type := 29, pos := "law.go:107", after := #[{ on := 60, ground := Ground.data }, { on := 60, ground := Ground.chain }, { on := 58, ground := Ground.guard }], guard := some (58, true) }) rfl (fun K hK => ?_) (by exact AllReadyH.nil)
      rw [if_pos (by rfl)]
      go_simp
      (go_at_call 34; refine (HF3.out _).mono ?_; rintro e z61 ⟨rfl, u61⟩)
      have HS61 := Lib.hid (show Below V3.heap.size V3 z61 from (HS60.out).trans (u61.mono (HS60.out).size))
      clear u61
      refine hK.out _ _ (by (try dsimp only); (first | exact HS77.out | exact HS73.out | exact HS70.out | exact HS69.out | exact HS67.out | exact HS61.out | exact HS60.out | exact HS55.out | exact HS53.out | exact HS48.out | exact HS46.out | exact HS11.out | exact HS9.out | exact HS5.out | exact HS2.out | exact hS7)) (fun hHeld => ?_)
      clear hK K
      simp only [List.setIfInBounds_toArray, List.set_cons_zero, List.set_cons_succ]
      refine wpAnyH_take (i := 63) (oi := { dst := some 102, op := Op.binOp BinOp.eql 29 (Operand.tmp 100) (Operand.tmp 101) 29, type := 4, pos := "law.go:107", after := #[{ on := 61, ground := Ground.data }, { on := 62, ground := Ground.data }, { on := 58, ground := Ground.guard }], guard := some (58, true) }) (v := ?vq63u) rfl (by as_aux_lemma => kernel_rfl) (by as_aux_lemma => kernel_rfl) (by as_aux_lemma => kernel_rfl) (fun _ _ _ h => h) (Or.inl ⟨by rfl, ?yq63u⟩) (by assumption) ?rq63u
      case yq63u => (intro wS hSw; (try dsimp only at hSw); obtain ⟨_, _, _, _, _, kc0, kc1, kc2, kc3⟩ := HP.out wS hSw; go_simp <;> with_reducible rfl)
      simp only [Act.put, List.setIfInBounds_toArray, List.set_cons_zero, List.set_cons_succ]
      refine wpAnyH_take (i := 64) (oi := { dst := some 103, op := Op.pick (Operand.tmp 97) (Operand.tmp 102) (Operand.const (Value.bool false)), type := 4, pos := "law.go:107", after := #[{ on := 58, ground := Ground.data }, { on := 63, ground := Ground.data }], guard := none }) (v := ?vq64u) rfl (by as_aux_lemma => kernel_rfl) (by as_aux_lemma => kernel_rfl) (by as_aux_lemma => kernel_rfl) (fun _ _ _ h => h) (Or.inl ⟨by rfl, ?yq64u⟩) (by assumption) ?rq64u
      case yq64u => (intro wS hSw; (try dsimp only at hSw); obtain ⟨_, _, _, _, _, kc0, kc1, kc2, kc3⟩ := HP.out wS hSw; go_simp <;> with_reducible rfl)
      simp only [Act.put, List.setIfInBounds_toArray, List.set_cons_zero, List.set_cons_succ]
      refine wpAnyH_take (i := 65) (oi := { dst := some 104, op := Op.move (Operand.tmp 103), type := 4, pos := "law.go:107", after := #[{ on := 64, ground := Ground.data }, { on := 61, ground := Ground.chain }], guard := none }) (v := ?vq65u) rfl (by as_aux_lemma => kernel_rfl) (by as_aux_lemma => kernel_rfl) (by as_aux_lemma => kernel_rfl) (fun _ _ _ h => h) (Or.inl ⟨by rfl, ?yq65u⟩) (by assumption) ?rq65u
      case yq65u => (intro wS hSw; (try dsimp only at hSw); obtain ⟨_, _, _, _, _, kc0, kc1, kc2, kc3⟩ := HP.out wS hSw; go_simp <;> with_reducible rfl)
      simp only [Act.put, List.setIfInBounds_toArray, List.set_cons_zero, List.set_cons_succ]
      refine wpAnyH_take (i := 66) (oi := { dst := some 105, op := Op.load 29 (Operand.tmp 7), type := 29, pos := "law.go:107", after := #[{ on := 65, ground := Ground.guard }], guard := some (65, true) }) (v := .agg (adC a)) rfl (by as_aux_lemma => kernel_rfl) (by as_aux_lemma => kernel_rfl) (by as_aux_lemma => kernel_rfl) (fun _ _ _ h => h) (yieldsIf_load_A (by rfl) 29 (.tmp 7) rfl (gp) (0) rfl (adC a) _ (fun w hw => (HP.out w hw).1.range) und_addr rfl (by rw [info_addr, adC_size HA.out.1])) (by assumption) ?_
      simp only [Act.put, List.setIfInBounds_toArray, List.set_cons_zero, List.set_cons_succ]
      refine wpAnyH_take (i := 68) (oi := { dst := some 107, op := Op.load 29 (Operand.tmp 8), type := 29, pos := "law.go:107", after := #[{ on := 65, ground := Ground.guard }], guard := some (65, true) }) (v := .agg (adC b)) rfl (by as_aux_lemma => kernel_rfl) (by as_aux_lemma => kernel_rfl) (by as_aux_lemma => kernel_rfl) (fun _ _ _ h => h) (yieldsIf_load_A (by rfl) 29 (.tmp 8) rfl (gq) (0) rfl (adC b) _ (fun w hw => (HP.out w hw).2.1.range) und_addr rfl (by rw [info_addr, adC_size HA.out.2])) (by assumption) ?_
      simp only [Act.put, List.setIfInBounds_toArray, List.set_cons_zero, List.set_cons_succ]
      refine wpAnyH_take (i := 71) (oi := { dst := some 110, op := Op.load 29 (Operand.tmp 7), type := 29, pos := "law.go:107", after := #[{ on := 65, ground := Ground.guard }], guard := some (65, true) }) (v := .agg (adC a)) rfl (by as_aux_lemma => kernel_rfl) (by as_aux_lemma => kernel_rfl) (by as_aux_lemma => kernel_rfl) (fun _ _ _ h => h) (yieldsIf_load_A (by rfl) 29 (.tmp 7) rfl (gp) (0) rfl (adC a) _ (fun w hw => (HP.out w hw).1.range) und_addr rfl (by rw [info_addr, adC_size HA.out.1])) (by assumption) ?_
      simp only [Act.put, List.setIfInBounds_toArray, List.set_cons_zero, List.set_cons_succ]
      refine wpAnyH_take (i := 72) (oi := { dst := some 111, op := Op.load 29 (Operand.tmp 8), type := 29, pos := "law.go:107", after := #[{ on := 65, ground := Ground.guard }], guard := some (65, true) }) (v := .agg (adC b)) rfl (by as_aux_lemma => kernel_rfl) (by as_aux_lemma => kernel_rfl) (by as_aux_lemma => kernel_rfl) (fun _ _ _ h => h) (yieldsIf_load_A (by rfl) 29 (.tmp 8) rfl (gq) (0) rfl (adC b) _ (fun w hw => (HP.out w hw).2.1.range) und_addr rfl (by rw [info_addr, adC_size HA.out.2])) (by assumption) ?_
      simp only [Act.put, List.setIfInBounds_toArray, List.set_cons_zero, List.set_cons_succ]
      refine wpAnyH_ready (rs := [67]) (by as_aux_lemma => kernel_rfl) (by simp) ?_
      refine AllReadyH.cons (o := { dst := some 106, op := Op.call { callee := Callee.value (Operand.func 32), args := #[Operand.tmp 105], argTypes := #[29] }, type := 58, pos := "law.go:107", after := #[{ on := 66, ground := Ground.data }, { on := 65, ground := Ground.chain }, { on := 65, ground := Ground.guard }], guard := some (65, true) }) rfl (fun K hK => ?_) (by exact AllReadyH.nil)
      rw [if_pos (by rfl)]
      go_simp
      (go_at_call 32; refine (HWa.out _).mono ?_; rintro e z67 ⟨rfl, u67⟩)
      have HS67 := Lib.hid (show Below V3.heap.size V3 z67 from (HS61.out).trans (u67.mono (HS61.out).size))
      clear u67
      refine hK.out _ _ (by (try dsimp only); (first | exact HS77.out | exact HS73.out | exact HS70.out | exact HS69.out | exact HS67.out | exact HS61.out | exact HS60.out | exact HS55.out | exact HS53.out | exact HS48.out | exact HS46.out | exact HS11.out | exact HS9.out | exact HS5.out | exact HS2.out | exact hS7)) (fun hHeld => ?_)
      clear hK K
      simp only [List.setIfInBounds_toArray, List.set_cons_zero, List.set_cons_succ]
      refine wpAnyH_ready (rs := [69]) (by as_aux_lemma => kernel_rfl) (by simp) ?_
      refine AllReadyH.cons (o := { dst := some 108, op := Op.call { callee := Callee.value (Operand.func 32), args := #[Operand.tmp 107], argTypes := #[29] }, type := 58, pos := "law.go:107", after := #[{ on := 68, ground := Ground.data }, { on := 67, ground := Ground.chain }, { on := 65, ground := Ground.guard }], guard := some (65, true) }) rfl (fun K hK => ?_) (by exact AllReadyH.nil)
      rw [if_pos (by rfl)]
      go_simp
      (go_at_call 32; refine (HWb.out _).mono ?_; rintro e z69 ⟨rfl, u69⟩)
      have HS69 := Lib.hid (show Below V3.heap.size V3 z69 from (HS67.out).trans (u69.mono (HS67.out).size))
      clear u69
      refine hK.out _ _ (by (try dsimp only); (first | exact HS77.out | exact HS73.out | exact HS70.out | exact HS69.out | exact HS67.out | exact HS61.out | exact HS60.out | exact HS55.out | exact HS53.out | exact HS48.out | exact HS46.out | exact HS11.out | exact HS9.out | exact HS5.out | exact HS2.out | exact hS7)) (fun hHeld => ?_)
      clear hK K
      simp only [List.setIfInBounds_toArray, List.set_cons_zero, List.set_cons_succ]
      refine wpAnyH_ready (rs := [70]) (by as_aux_lemma => kernel_rfl) (by simp) ?_
      refine AllReadyH.cons (o := { dst := some 109, op := Op.call { callee := Callee.value (Operand.func 36), args := #[Operand.tmp 106, Operand.tmp 108], argTypes := #[58, 58] }, type := 3, pos := "law.go:107", after := #[{ on := 67, ground := Ground.data }, { on := 69, ground := Ground.data }, { on := 69, ground := Ground.chain }, { on := 65, ground := Ground.guard }], guard := some (65, true) }) rfl (fun K hK => ?_) (by exact AllReadyH.nil)
      rw [if_pos (by rfl)]
      go_simp
      (go_at_call 36; refine (HO3.out _).mono ?_; rintro e z70 ⟨rfl, u70⟩)
      have HS70 := Lib.hid (show Below V3.heap.size V3 z70 from (HS69.out).trans (u70.mono (HS69.out).size))
      clear u70
      refine hK.out _ _ (by (try dsimp only); (first | exact HS77.out | exact HS73.out | exact HS70.out | exact HS69.out | exact HS67.out | exact HS61.out | exact HS60.out | exact HS55.out | exact HS53.out | exact HS48.out | exact HS46.out | exact HS11.out | exact HS9.out | exact HS5.out | exact HS2.out | exact hS7)) (fun hHeld => ?_)
      clear hK K
      simp only [List.setIfInBounds_toArray, List.set_cons_zero, List.set_cons_succ]
      refine wpAnyH_ready (rs := [73]) (by as_aux_lemma => kernel_rfl) (by simp) ?_
      refine AllReadyH.cons (o := { dst := some 112, op := Op.call { callee := Callee.value (Operand.func 30), args := #[Operand.tmp 110, Operand.tmp 111], argTypes := #[29, 29] }, type := 3, pos := "law.go:107", after := #[{ on := 71, ground := Ground.data }, { on := 72, ground := Ground.data }, { on := 70, ground := Ground.chain }, { on := 65, ground := Ground.guard }], guard := some (65, true) }) rfl (fun K hK => ?_) (by exact AllReadyH.nil)
      rw [if_pos (by rfl)]
      go_simp
      (go_at_call 30; refine (HO2.out _).mono ?_; rintro e z73 ⟨rfl, u73⟩)
      have HS73 := Lib.hid (show Below V3.heap.size V3 z73 from (HS70.out).trans (u73.mono (HS70.out).size))
      clear u73
      refine hK.out _ _ (by (try dsimp only); (first | exact HS77.out | exact HS73.out | exact HS70.out | exact HS69.out | exact HS67.out | exact HS61.out | exact HS60.out | exact HS55.out | exact HS53.out | exact HS48.out | exact HS46.out | exact HS11.out | exact HS9.out | exact HS5.out | exact HS2.out | exact hS7)) (fun hHeld => ?_)
      clear hK K
      simp only [List.setIfInBounds_toArray, List.set_cons_zero, List.set_cons_succ]
      refine wpAnyH_take (i := 74) (oi := { dst := some 113, op := Op.binOp BinOp.eql 3 (Operand.tmp 109) (Operand.tmp 112) 3, type := 4, pos := "law.go:107", after := #[{ on := 70, ground := Ground.data }, { on := 73, ground := Ground.data }, { on := 65, ground := Ground.guard }], guard := some (65, true) }) (v := ?vq74u) rfl (by as_aux_lemma => kernel_rfl) (by as_aux_lemma => kernel_rfl) (by as_aux_lemma => kernel_rfl) (fun _ _ _ h => h) (Or.inl ⟨by rfl, ?yq74u⟩) (by assumption) ?rq74u
      case yq74u => (intro wS hSw; (try dsimp only at hSw); obtain ⟨_, _, _, _, _, kc0, kc1, kc2, kc3⟩ := HP.out wS hSw; go_simp <;> with_reducible rfl)
      simp only [Act.put, List.setIfInBounds_toArray, List.set_cons_zero, List.set_cons_succ]
      refine wpAnyH_take (i := 75) (oi := { dst := some 114, op := Op.pick (Operand.tmp 104) (Operand.tmp 113) (Operand.const (Value.bool false)), type := 4, pos := "law.go:107", after := #[{ on := 65, ground := Ground.data }, { on := 74, ground := Ground.data }], guard := none }) (v := ?vq75u) rfl (by as_aux_lemma => kernel_rfl) (by as_aux_lemma => kernel_rfl) (by as_aux_lemma => kernel_rfl) (fun _ _ _ h => h) (Or.inl ⟨by rfl, ?yq75u⟩) (by assumption) ?rq75u
      case yq75u => (intro wS hSw; (try dsimp only at hSw); obtain ⟨_, _, _, _, _, kc0, kc1, kc2, kc3⟩ := HP.out wS hSw; go_simp <;> with_reducible rfl)
      simp only [Act.put, List.setIfInBounds_toArray, List.set_cons_zero, List.set_cons_succ]
      refine wpAnyH_take (i := 76) (oi := { dst := some 115, op := Op.move (Operand.tmp 114), type := 4, pos := "law.go:107", after := #[{ on := 75, ground := Ground.data }, { on := 73, ground := Ground.chain }], guard := none }) (v := ?vq76u) rfl (by as_aux_lemma => kernel_rfl) (by as_aux_lemma => kernel_rfl) (by as_aux_lemma => kernel_rfl) (fun _ _ _ h => h) (Or.inl ⟨by rfl, ?yq76u⟩) (by assumption) ?rq76u
      case yq76u => (intro wS hSw; (try dsimp only at hSw); obtain ⟨_, _, _, _, _, kc0, kc1, kc2, kc3⟩ := HP.out wS hSw; go_simp <;> with_reducible rfl)
      simp only [Act.put, List.setIfInBounds_toArray, List.set_cons_zero, List.set_cons_succ]
      refine wpAnyH_ready (rs := [77]) (by as_aux_lemma => kernel_rfl) (by simp) ?_
      refine AllReadyH.cons (o := { dst := some 116, op := Op.call { callee := Callee.value (Operand.func 10), args := #[], argTypes := #[] }, type := 4, pos := "law.go:107", after := #[{ on := 76, ground := Ground.chain }, { on := 76, ground := Ground.guard }], guard := some (76, true) }) rfl (fun K hK => ?_) (by exact AllReadyH.nil)
      rw [if_pos (by rfl)]
      go_simp
      (go_at_call 10; refine (pworks_any _ (HE.out.2.keep (HS73.out))).mono ?_; rintro e z77 ⟨rfl, u77⟩)
      have HS77 := Lib.hid (show Below V3.heap.size V3 z77 from (HS73.out).trans (u77.mono (HS73.out).size))
      clear u77
      refine hK.out _ _ (by (try dsimp only); (first | exact HS77.out | exact HS73.out | exact HS70.out | exact HS69.out | exact HS67.out | exact HS61.out | exact HS60.out | exact HS55.out | exact HS53.out | exact HS48.out | exact HS46.out | exact HS11.out | exact HS9.out | exact HS5.out | exact HS2.out | exact hS7)) (fun hHeld => ?_)
      clear hK K
      simp only [List.setIfInBounds_toArray, List.set_cons_zero, List.set_cons_succ]
      refine wpAnyH_take (i := 78) (oi := { dst := some 117, op := Op.pick (Operand.tmp 115) (Operand.tmp 116) (Operand.const (Value.bool false)), type := 4, pos := "law.go:107", after := #[{ on := 76, ground := Ground.data }, { on := 77, ground := Ground.data }], guard := none }) (v := ?vq78u) rfl (by as_aux_lemma => kernel_rfl) (by as_aux_lemma => kernel_rfl) (by as_aux_lemma => kernel_rfl) (fun _ _ _ h => h) (Or.inl ⟨by rfl, ?yq78u⟩) (by assumption) ?rq78u
      case yq78u => (intro wS hSw; (try dsimp only at hSw); obtain ⟨_, _, _, _, _, kc0, kc1, kc2, kc3⟩ := HP.out wS hSw; go_simp <;> with_reducible rfl)
      simp only [Act.put, List.setIfInBounds_toArray, List.set_cons_zero, List.set_cons_succ]
      refine wpAnyH_take (i := 79) (oi := { dst := some 6, op := Op.assign (Operand.tmp 117), type := 4, pos := "law.go:107", after := #[{ on := 78, ground := Ground.data }, { on := 77, ground := Ground.chain }, { on := 0, ground := Ground.phase }, { on := 1, ground := Ground.phase }, { on := 2, ground := Ground.phase }, { on := 3, ground := Ground.phase }, { on := 4, ground := Ground.phase }, { on := 5, ground := Ground.phase }, { on := 6, ground := Ground.phase }, { on := 7, ground := Ground.phase }, { on := 8, ground := Ground.phase }, { on := 9, ground := Ground.phase }, { on := 10, ground := Ground.phase }, { on := 11, ground := Ground.phase }, { on := 12, ground := Ground.phase }, { on := 13, ground := Ground.phase }, { on := 14, ground := Ground.phase }, { on := 15, ground := Ground.phase }, { on := 16, ground := Ground.phase }, { on := 17, ground := Ground.phase }, { on := 18, ground := Ground.phase }, { on := 19, ground := Ground.phase }, { on := 20, ground := Ground.phase }, { on := 21, ground := Ground.phase }, { on := 22, ground := Ground.phase }, { on := 23, ground := Ground.phase }, { on := 24, ground := Ground.phase }, { on := 25, ground := Ground.phase }, { on := 26, ground := Ground.phase }, { on := 27, ground := Ground.phase }, { on := 28, ground := Ground.phase }, { on := 29, ground := Ground.phase }, { on := 30, ground := Ground.phase }, { on := 31, ground := Ground.phase }, { on := 32, ground := Ground.phase }, { on := 33, ground := Ground.phase }, { on := 34, ground := Ground.phase }, { on := 35, ground := Ground.phase }, { on := 36, ground := Ground.phase }, { on := 37, ground := Ground.phase }, { on := 38, ground := Ground.phase }, { on := 39, ground := Ground.phase }, { on := 40, ground := Ground.phase }, { on := 41, ground := Ground.phase }, { on := 42, ground := Ground.phase }, { on := 43, ground := Ground.phase }, { on := 44, ground := Ground.phase }, { on := 45, ground := Ground.phase }, { on := 46, ground := Ground.phase }, { on := 47, ground := Ground.phase }, { on := 48, ground := Ground.phase }, { on := 49, ground := Ground.phase }, { on := 50, ground := Ground.phase }, { on := 51, ground := Ground.phase }, { on := 52, ground := Ground.phase }, { on := 53, ground := Ground.phase }, { on := 54, ground := Ground.phase }, { on := 55, ground := Ground.phase }, { on := 56, ground := Ground.phase }, { on := 57, ground := Ground.phase }, { on := 58, ground := Ground.phase }, { on := 59, ground := Ground.phase }, { on := 60, ground := Ground.phase }, { on := 61, ground := Ground.phase }, { on := 62, ground := Ground.phase }, { on := 63, ground := Ground.phase }, { on := 64, ground := Ground.phase }, { on := 65, ground := Ground.phase }, { on := 66, ground := Ground.phase }, { on := 67, ground := Ground.phase }, { on := 68, ground := Ground.phase }, { on := 69, ground := Ground.phase }, { on := 70, ground := Ground.phase }, { on := 71, ground := Ground.phase }, { on := 72, ground := Ground.phase }, { on := 73, ground := Ground.phase }, { on := 74, ground := Ground.phase }, { on := 75, ground := Ground.phase }, { on := 76, ground := Ground.phase }, { on := 77, ground := Ground.phase }, { on := 78, ground := Ground.phase }], guard := none }) (v := ?vq79u) rfl (by as_aux_lemma => kernel_rfl) (by as_aux_lemma => kernel_rfl) (by as_aux_lemma => kernel_rfl) (fun _ _ _ h => h) (Or.inl ⟨by rfl, ?yq79u⟩) (by assumption) ?rq79u
      case yq79u => (intro wS hSw; (try dsimp only at hSw); obtain ⟨_, _, _, _, _, kc0, kc1, kc2, kc3⟩ := HP.out wS hSw; go_simp <;> with_reducible rfl)
      simp only [Act.put, List.setIfInBounds_toArray, List.set_cons_zero, List.set_cons_succ]
      refine wpAnyH_done (by as_aux_lemma => kernel_rfl) ?_ _
      clear hHeld
      go_wp2_with fail
      go_ret
      exact ⟨rfl, HE.out.1.trans (HS77.out.mono HE.out.1.size)⟩
end Go.Proofs.YtenepkgjdoddgaaGreatDoor
