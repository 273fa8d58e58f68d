/- Texts laid into one: Pj. -/
import Derived.Test.YtenepkgjdoddgaaGreatDoorAx
/- policy's laws: PolicyNames: long texts; the arguments opened; the walk for all. -/
namespace Go.Proofs.YtenepkgjdoddgaaGreatDoor
open Go.RowKit Go.Shelf
attribute [local irreducible] lb adC2
set_option maxRecDepth 100000 in
set_option maxHeartbeats 4000000 in
theorem names_long (a b : List Nat) (s : ByteArray) (n : Nat) (w : World) (ha : Ad a) (hb : Ad b) (hT : TZ w) (hs : ¬ s.size ≤ 60) :
    Calls Tryz.prog 6 #[.agg (adC2 a b), .string s, W n] w fun e w' => e = .returned (.bool true) ∧ Below w.heap.size w w' := by
  obtain ⟨X, hX, b1, b2, hW, hS⟩ := boxN a b n w
  have HX := Lib.hid hX
  have H0 := Lib.hid (And.intro b1 (And.intro b2 (And.intro hW hS)))
  have HA := Lib.hid (And.intro ha hb)
  have HT := Lib.hid hT
  clear hX b1 b2 hW hS ha hb hT
  go_enter Tryz.func6, Tryz.ntmps6
  go_upto_region 1 with fail
  rw [HX.out]
  have hS0 : Below X.heap.size X X.drew := ⟨rfl, rfl, rfl, Nat.le_refl _, fun _ _ => rfl⟩
  go_cut [7, 8] from 15 to 18 (fun p q wx => ∃ gp gq : Nat, p = .pointer (some ⟨gp, 0, none⟩) ∧ q = .pointer (some ⟨gq, 0, none⟩) ∧ gp ≠ gq ∧ Blk wx gp 29 (adC a) ∧ Blk wx gq 29 (adC b) ∧ Below X.heap.size X wx)
  case first =>
    refine wp_region_held_drew (S := fun w' => Below X.heap.size X w') (by as_aux_lemma => kernel_rfl) hS0 (fun hHeld => ?_)
    simp only [List.size_toArray, List.length_cons, List.length_nil, Nat.reduceAdd, Array.replicate_succ, Array.replicate_zero, List.push_toArray, List.nil_append, List.cons_append]
    refine wpAnyH_take (i := 0) (oi := { dst := some 15, op := Op.indexAddr 56 (Operand.tmp 3) (Operand.const (Value.int IntKind.i64 0)), type := 0, pos := "law.go:100", after := #[], guard := none }) (v := ?vq0) rfl (by as_aux_lemma => kernel_rfl) (by as_aux_lemma => kernel_rfl) (by as_aux_lemma => kernel_rfl) (fun _ _ _ h => h) (Or.inl ⟨by rfl, ?yq0⟩) (by assumption) ?rq0
    case yq0 => (intro wS hSw; (try dsimp only at hSw); go_simp <;> with_reducible rfl)
    simp only [Act.put, List.setIfInBounds_toArray, List.set_cons_zero, List.set_cons_succ]
    refine wpAnyH_take (i := 1) (oi := { dst := some 16, op := Op.load 29 (Operand.tmp 15), type := 29, pos := "law.go:100", after := #[{ on := 0, ground := Ground.data }], guard := none }) (v := .agg (adC a)) rfl (by as_aux_lemma => kernel_rfl) (by as_aux_lemma => kernel_rfl) (by as_aux_lemma => kernel_rfl) (fun _ _ _ h => h) (yieldsIf_load_A (by rfl) 29 (.tmp 15) rfl w.heap.size 0 rfl (adC a) _ (fun w1 hw => range_fst HA.out.1 (H0.out.1.keep hw)) und_addr rfl (by rw [info_addr, adC_size HA.out.1])) (by assumption) ?_
    simp only [Act.put, List.setIfInBounds_toArray, List.set_cons_zero, List.set_cons_succ]
    refine wpAnyH_take (i := 2) (oi := { dst := some 17, op := Op.indexAddr 56 (Operand.tmp 3) (Operand.const (Value.int IntKind.i64 1)), type := 0, pos := "law.go:100", after := #[{ on := 6, ground := Ground.gcOnly Departure.lateStores }], guard := none }) (v := ?vq2) rfl (by as_aux_lemma => kernel_rfl) (by as_aux_lemma => kernel_rfl) (by as_aux_lemma => kernel_rfl) (fun _ _ _ h => h) (Or.inl ⟨by rfl, ?yq2⟩) (by assumption) ?rq2
    case yq2 => (intro wS hSw; (try dsimp only at hSw); go_simp <;> with_reducible rfl)
    simp only [Act.put, List.setIfInBounds_toArray, List.set_cons_zero, List.set_cons_succ]
    refine wpAnyH_take (i := 3) (oi := { dst := some 18, op := Op.load 29 (Operand.tmp 17), type := 29, pos := "law.go:100", after := #[{ on := 2, ground := Ground.data }, { on := 6, ground := Ground.gcOnly Departure.lateStores }], guard := none }) (v := .agg (adC b)) rfl (by as_aux_lemma => kernel_rfl) (by as_aux_lemma => kernel_rfl) (by as_aux_lemma => kernel_rfl) (fun _ _ _ h => h) (yieldsIf_load_A (by rfl) 29 (.tmp 17) rfl w.heap.size 20 rfl (adC b) _ (fun w1 hw => range_snd HA.out.1 (H0.out.1.keep hw)) und_addr rfl (by rw [info_addr, adC_size HA.out.2])) (by assumption) ?_
    simp only [Act.put, List.setIfInBounds_toArray, List.set_cons_zero, List.set_cons_succ]
    refine wpAnyH_ready (rs := [4, 5]) (by as_aux_lemma => kernel_rfl) (by simp) ?_
    refine AllReadyH.cons (o := { dst := some 7, op := Op.alloc 29, type := 0, pos := "law.go:100", after := #[], guard := none }) rfl (fun K hK => ?_) ?_
    · rw [if_pos (by rfl)]
      go_simp
      rw [← zaC_lit]
      refine hK.out _ _ (by (try dsimp only); (first | exact balloc (balloc hS0 _) _ | exact balloc hS0 _)) (fun hHeld => ?_)
      clear hK K
      simp only [List.setIfInBounds_toArray, List.set_cons_zero, List.set_cons_succ]
      refine wpAnyH_ready (rs := [5]) (by as_aux_lemma => kernel_rfl) (by simp) ?_
      refine AllReadyH.cons (o := { dst := some 8, op := Op.alloc 29, type := 0, pos := "law.go:100", after := #[], guard := none }) rfl (fun K hK => ?_) (by exact AllReadyH.nil)
      rw [if_pos (by rfl)]
      go_simp
      rw [← zaC_lit]
      refine hK.out _ _ (by (try dsimp only); (first | exact balloc (balloc hS0 _) _ | exact balloc hS0 _)) (fun hHeld => ?_)
      clear hK K
      simp only [List.setIfInBounds_toArray, List.set_cons_zero, List.set_cons_succ]
      have hY0 : Blk ((X.alloc (.cells zaC 29)).alloc (.cells zaC 29)).drew X.heap.size 29 zaC := ((Blk.new X _ _).alloc _).drew'
      have hY1 : Blk ((X.alloc (.cells zaC 29)).alloc (.cells zaC 29)).drew (X.heap.size + 1) 29 zaC := (Blk.newS X _ _ _).drew'
      have hz : Below X.heap.size X ((X.alloc (.cells zaC 29)).alloc (.cells zaC 29)).drew := (balloc (balloc (Below.refl _ _) _) _).drew
      obtain ⟨Y, hY⟩ : ∃ Y, ((X.alloc (.cells zaC 29)).alloc (.cells zaC 29)).drew = Y := ⟨_, rfl⟩
      rw [hY] at hY0 hY1 hz ⊢
      clear hY
      have hp := hY0
      have hq := hY1
      try simp only [World.size_drew, World.size_alloc]
      refine wpAnyH_ready (rs := [6]) (by as_aux_lemma => kernel_rfl) (by simp) ?_
      refine AllReadyH.cons (o := { dst := none, op := Op.store 29 (Operand.tmp 7) (Operand.tmp 16), type := 0, pos := "law.go:100", after := #[{ on := 4, ground := Ground.data }, { on := 1, ground := Ground.data }, { on := 0, ground := Ground.phase }, { on := 1, ground := Ground.phase }, { on := 2, ground := Ground.textOnly Departure.lateStores }, { on := 3, ground := Ground.textOnly Departure.lateStores }, { on := 4, ground := Ground.phase }, { on := 5, ground := Ground.phase }], guard := none }) rfl (fun K hK => ?_) (by exact AllReadyH.nil)
      rw [if_pos (by rfl)]
      refine wp_store_row 29 (.tmp 7) (.tmp 16) rfl X.heap.size (adC a) rfl rfl 29 zaC hp (by rw [info_addr, adC_size HA.out.1]) (by rw [zaC_size, adC_size HA.out.1]) (adC_one _) ?_
      have hp1 : Blk (Y.setRow X.heap.size (adC a)) X.heap.size 29 (adC a) := setRow_heap _ _ _ _ _ _ hp
      have hq1 : Blk (Y.setRow X.heap.size (adC a)) (X.heap.size + 1) 29 zaC := (setRow_other _ _ _ _ (by omega)).trans hq
      have hz1 : Below X.heap.size X (Y.setRow X.heap.size (adC a)) := below_setRow hz (by omega) _
      obtain ⟨Z1, hZ1⟩ : ∃ Z1, Y.setRow X.heap.size (adC a) = Z1 := ⟨_, rfl⟩
      rw [hZ1] at hp1 hq1 hz1 ⊢
      clear hZ1
      refine hK.out _ _ (by (try dsimp only); (first | exact hz2 | exact hz1)) (fun hHeld => ?_)
      clear hK K
      simp only [List.setIfInBounds_toArray, List.set_cons_zero, List.set_cons_succ]
      refine wpAnyH_ready (rs := [7]) (by as_aux_lemma => kernel_rfl) (by simp) ?_
      refine AllReadyH.cons (o := { dst := none, op := Op.store 29 (Operand.tmp 8) (Operand.tmp 18), type := 0, pos := "law.go:100", after := #[{ on := 5, ground := Ground.data }, { on := 3, ground := Ground.data }, { on := 6, ground := Ground.chain }, { on := 0, ground := Ground.phase }, { on := 1, ground := Ground.phase }, { on := 2, ground := Ground.phase }, { on := 3, ground := Ground.phase }, { on := 4, ground := Ground.phase }, { on := 5, ground := Ground.phase }, { on := 6, ground := Ground.phase }], guard := none }) rfl (fun K hK => ?_) (by exact AllReadyH.nil)
      rw [if_pos (by rfl)]
      refine wp_store_row 29 (.tmp 8) (.tmp 18) rfl (X.heap.size + 1) (adC b) rfl rfl 29 zaC hq1 (by rw [info_addr, adC_size HA.out.2]) (by rw [zaC_size, adC_size HA.out.2]) (adC_one _) ?_
      have hq2 : Blk (Z1.setRow (X.heap.size + 1) (adC b)) (X.heap.size + 1) 29 (adC b) := setRow_heap _ _ _ _ _ _ hq1
      have hp2 : Blk (Z1.setRow (X.heap.size + 1) (adC b)) X.heap.size 29 (adC a) := (setRow_other _ _ _ _ (by omega)).trans hp1
      have hz2 : Below X.heap.size X (Z1.setRow (X.heap.size + 1) (adC b)) := below_setRow hz1 (by omega) _
      obtain ⟨Z2, hZ2⟩ : ∃ Z2, Z1.setRow (X.heap.size + 1) (adC b) = Z2 := ⟨_, rfl⟩
      rw [hZ2] at hp2 hq2 hz2 ⊢
      clear hZ2
      refine hK.out _ _ (by (try dsimp only); (first | exact hz2 | exact hz1)) (fun hHeld => ?_)
      clear hK K
      simp only [List.setIfInBounds_toArray, List.set_cons_zero, List.set_cons_succ]
      refine wpAnyH_done (by as_aux_lemma => kernel_rfl) ?_ _
      clear hHeld
      go_wp2_with fail
      go_meet
      exact ⟨X.heap.size, (X.heap.size + 1), rfl, rfl, by omega, hp2, hq2, hz2⟩
    refine AllReadyH.cons (o := { dst := some 8, op := Op.alloc 29, type := 0, pos := "law.go:100", after := #[], guard := none }) rfl (fun K hK => ?_) (by exact AllReadyH.nil)
    rw [if_pos (by rfl)]
    go_simp
    rw [← zaC_lit]
    refine hK.out _ _ (by (try dsimp only); (first | exact balloc (balloc hS0 _) _ | exact balloc hS0 _)) (fun hHeld => ?_)
    clear hK K
    simp only [List.setIfInBounds_toArray, List.set_cons_zero, List.set_cons_succ]
    refine wpAnyH_ready (rs := [4]) (by as_aux_lemma => kernel_rfl) (by simp) ?_
    refine AllReadyH.cons (o := { dst := some 7, op := Op.alloc 29, type := 0, pos := "law.go:100", after := #[], guard := none }) rfl (fun K hK => ?_) (by exact AllReadyH.nil)
    rw [if_pos (by rfl)]
    go_simp
    rw [← zaC_lit]
    refine hK.out _ _ (by (try dsimp only); (first | exact balloc (balloc hS0 _) _ | exact balloc hS0 _)) (fun hHeld => ?_)
    clear hK K
    simp only [List.setIfInBounds_toArray, List.set_cons_zero, List.set_cons_succ]
    have hY0 : Blk ((X.alloc (.cells zaC 29)).alloc (.cells zaC 29)).drew X.heap.size 29 zaC := ((Blk.new X _ _).alloc _).drew'
    have hY1 : Blk ((X.alloc (.cells zaC 29)).alloc (.cells zaC 29)).drew (X.heap.size + 1) 29 zaC := (Blk.newS X _ _ _).drew'
    have hz : Below X.heap.size X ((X.alloc (.cells zaC 29)).alloc (.cells zaC 29)).drew := (balloc (balloc (Below.refl _ _) _) _).drew
    obtain ⟨Y, hY⟩ : ∃ Y, ((X.alloc (.cells zaC 29)).alloc (.cells zaC 29)).drew = Y := ⟨_, rfl⟩
    rw [hY] at hY0 hY1 hz ⊢
    clear hY
    have hp := hY1
    have hq := hY0
    try simp only [World.size_drew, World.size_alloc]
    refine wpAnyH_ready (rs := [6]) (by as_aux_lemma => kernel_rfl) (by simp) ?_
    refine AllReadyH.cons (o := { dst := none, op := Op.store 29 (Operand.tmp 7) (Operand.tmp 16), type := 0, pos := "law.go:100", after := #[{ on := 4, ground := Ground.data }, { on := 1, ground := Ground.data }, { on := 0, ground := Ground.phase }, { on := 1, ground := Ground.phase }, { on := 2, ground := Ground.textOnly Departure.lateStores }, { on := 3, ground := Ground.textOnly Departure.lateStores }, { on := 4, ground := Ground.phase }, { on := 5, ground := Ground.phase }], guard := none }) rfl (fun K hK => ?_) (by exact AllReadyH.nil)
    rw [if_pos (by rfl)]
    refine wp_store_row 29 (.tmp 7) (.tmp 16) rfl (X.heap.size + 1) (adC a) rfl rfl 29 zaC hp (by rw [info_addr, adC_size HA.out.1]) (by rw [zaC_size, adC_size HA.out.1]) (adC_one _) ?_
    have hp1 : Blk (Y.setRow (X.heap.size + 1) (adC a)) (X.heap.size + 1) 29 (adC a) := setRow_heap _ _ _ _ _ _ hp
    have hq1 : Blk (Y.setRow (X.heap.size + 1) (adC a)) X.heap.size 29 zaC := (setRow_other _ _ _ _ (by omega)).trans hq
    have hz1 : Below X.heap.size X (Y.setRow (X.heap.size + 1) (adC a)) := below_setRow hz (by omega) _
    obtain ⟨Z1, hZ1⟩ : ∃ Z1, Y.setRow (X.heap.size + 1) (adC a) = Z1 := ⟨_, rfl⟩
    rw [hZ1] at hp1 hq1 hz1 ⊢
    clear hZ1
    refine hK.out _ _ (by (try dsimp only); (first | exact hz2 | exact hz1)) (fun hHeld => ?_)
    clear hK K
    simp only [List.setIfInBounds_toArray, List.set_cons_zero, List.set_cons_succ]
    refine wpAnyH_ready (rs := [7]) (by as_aux_lemma => kernel_rfl) (by simp) ?_
    refine AllReadyH.cons (o := { dst := none, op := Op.store 29 (Operand.tmp 8) (Operand.tmp 18), type := 0, pos := "law.go:100", after := #[{ on := 5, ground := Ground.data }, { on := 3, ground := Ground.data }, { on := 6, ground := Ground.chain }, { on := 0, ground := Ground.phase }, { on := 1, ground := Ground.phase }, { on := 2, ground := Ground.phase }, { on := 3, ground := Ground.phase }, { on := 4, ground := Ground.phase }, { on := 5, ground := Ground.phase }, { on := 6, ground := Ground.phase }], guard := none }) rfl (fun K hK => ?_) (by exact AllReadyH.nil)
    rw [if_pos (by rfl)]
    refine wp_store_row 29 (.tmp 8) (.tmp 18) rfl X.heap.size (adC b) rfl rfl 29 zaC hq1 (by rw [info_addr, adC_size HA.out.2]) (by rw [zaC_size, adC_size HA.out.2]) (adC_one _) ?_
    have hq2 : Blk (Z1.setRow X.heap.size (adC b)) X.heap.size 29 (adC b) := setRow_heap _ _ _ _ _ _ hq1
    have hp2 : Blk (Z1.setRow X.heap.size (adC b)) (X.heap.size + 1) 29 (adC a) := (setRow_other _ _ _ _ (by omega)).trans hp1
    have hz2 : Below X.heap.size X (Z1.setRow X.heap.size (adC b)) := below_setRow hz1 (by omega) _
    obtain ⟨Z2, hZ2⟩ : ∃ Z2, Z1.setRow X.heap.size (adC b) = Z2 := ⟨_, rfl⟩
    rw [hZ2] at hp2 hq2 hz2 ⊢
    clear hZ2
    refine hK.out _ _ (by (try dsimp only); (first | exact hz2 | exact hz1)) (fun hHeld => ?_)
    clear hK K
    simp only [List.setIfInBounds_toArray, List.set_cons_zero, List.set_cons_succ]
    refine wpAnyH_done (by as_aux_lemma => kernel_rfl) ?_ _
    clear hHeld
    go_wp2_with fail
    go_meet
    exact ⟨(X.heap.size + 1), X.heap.size, rfl, rfl, by omega, hp2, hq2, hz2⟩
  case rest =>
    obtain ⟨gp, gq, rfl, rfl, hne, kp, kq, hD⟩ := hcut
    have hX0 : Below w.heap.size w wc := H0.out.2.2.1.trans (hD.mono H0.out.2.2.1.size)
    have HE := Lib.hid (And.intro hX0 (HT.out.keep hX0))
    have g0 : ¬ (s.size : Int) ≤ 60 := by omega
    have g1 : 60 < (s.size : Int) := by omega
    clear hD hX0 hne kp kq hs H0 HX hS0
    go_wp2_with (first | (go_at_call 10; refine (pworks_any _ HE.out.2).mono ?_; rintro e w9 ⟨rfl, h9⟩; have H9 := Lib.hid (HE.out.1.trans (h9.mono HE.out.1.size)); clear h9) | fail)
    go_ret
    exact ⟨rfl, H9.out⟩
end Go.Proofs.YtenepkgjdoddgaaGreatDoor

/- policy's laws: PolicyNames: the arguments opened; the walk for all. -/
namespace Go.Proofs.YtenepkgjdoddgaaGreatDoor
open Go.RowKit Go.ChangeShapes Go.WideShapes Go.ChangeAt

theorem arrW : WideMaps.ArrKey Tryz.prog 58 22 4 := ⟨by kernel_rfl, by kernel_rfl, by kernel_rfl, by kernel_rfl⟩
/-- A word's datum. -/
def datW {H : Type} (n : Nat) : DataW H := .agg [.lit (.int .u64 (lb n 0)), .lit (.int .u64 (lb n 1)), .lit (.int .u64 (lb n 2)), .lit (.int .u64 (lb n 3))]
theorem lb_wf (n i : Nat) : (Lit.int .u64 (lb n i)).wf = true := WalkArith.wf_u64 (by have := lb_nonneg n i; have := lb_le n i; omega)
section
variable {H : Type} {enc : TypeId × Value → H} {X : World} {base : Nat} {sp : Nat → Bool} {held : Bool}
set_option maxRecDepth 100000 in
theorem open_word9 {r : Reach} {b0 : Nat} {v : Value} {d : DataW H} {p : List MemPlace} (hv : Value.okWide Tryz.prog X r b0 58 v) (h : DataW.Trod enc Tryz.prog X base sp held 58 v d p) :
    ∃ n, n < MM ∧ v = .agg #[.int .u64 (lb n 0), .int .u64 (lb n 1), .int .u64 (lb n 2), .int .u64 (lb n 3)] ∧ d = datW n ∧ p = [] := by
  obtain ⟨xs, rfl, hn⟩ := WideMaps.okWide_arr arrW hv
  obtain ⟨c0, c1, c2, c3, rfl⟩ := Joins.array4 hn
  obtain ⟨fuel, hf⟩ := h
  obtain ⟨y0, y1, y2, y3, m, hx, h0, h1, h2, h3⟩ := trod_array4 arrW.hu arrW.one (by simpa [Value.cells] using hf)
  obtain ⟨a0, e0, rfl, w0⟩ := DataW.trod_int Tryz.underlying22 h0
  obtain ⟨a1, e1, rfl, w1⟩ := DataW.trod_int Tryz.underlying22 h1
  obtain ⟨a2, e2, rfl, w2⟩ := DataW.trod_int Tryz.underlying22 h2
  obtain ⟨a3, e3, rfl, w3⟩ := DataW.trod_int Tryz.underlying22 h3
  simp at e0 e1 e2 e3
  subst e0 e1 e2 e3
  have g0 := bounds_u64 w0
  have g1 := bounds_u64 w1
  have g2 := bounds_u64 w2
  have g3 := bounds_u64 w3
  obtain ⟨n, hM, rfl, rfl, rfl, rfl⟩ := word_of ⟨g0.1, g0.2⟩ ⟨g1.1, g1.2⟩ ⟨g2.1, g2.2⟩ ⟨g3.1, g3.2⟩
  simp only [Prod.mk.injEq] at hx
  exact ⟨n, hM, rfl, hx.1, by simpa using hx.2⟩
end
set_option maxRecDepth 100000 in
theorem names_all {H : Type} {enc : TypeId × Value → H} {X : World} {base base2 base3 : Nat} {sp sp2 sp3 : Nat → Bool} {held held2 held3 : Bool} {r r2 r3 : Reach} {b0 b2 b3 : Nat} {v0 v1 v2 : Value} {d0 d1 d2 : DataW H} {p0 p1 p2 : List MemPlace} (hv0 : Value.okWide Tryz.prog X r b0 56 v0) (h0 : DataW.Trod enc Tryz.prog X base sp held 56 v0 d0 p0) (hv1 : Value.okWide Tryz.prog X r2 b2 9 v1) (h1 : DataW.Trod enc Tryz.prog X base2 sp2 held2 9 v1 d1 p1) (hv2 : Value.okWide Tryz.prog X r3 b3 58 v2) (h2 : DataW.Trod enc Tryz.prog X base3 sp3 held3 58 v2 d2 p2) (hT : TZ X) :
    Calls Tryz.prog 6 #[v0, v1, v2] X fun e w' => e = .returned (.bool true) ∧ Below X.heap.size X w' := by
  obtain ⟨a, b, ha, hb, rfl⟩ := arg_pair hv0 h0
  obtain ⟨s, rfl, _, _, _⟩ := Go.ChangeMaps.open_string (P := Tryz.prog) (t := 9) (by kernel_rfl) hv1 h1
  obtain ⟨n, _, rfl, _, _⟩ := open_word9 hv2 h2
  by_cases hs : s.size ≤ 60
  · exact names_walk a b s n X ha hb hT hs
  · exact names_long a b s n X ha hb hT hs
end Go.Proofs.YtenepkgjdoddgaaGreatDoor

