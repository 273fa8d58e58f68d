/- split's law: SplitEnds: the walk. -/
import Derived.Test.YtopnkkdbimmlhaaTk
namespace Go.Proofs.Ytopnkkdbimmlhaa
open Go.RowKit Go.Shelf
attribute [local go_sem] ix0 ix1 ix2 ix3
attribute [local go_sem] Oper.semAt_some

theorem eu_divs (a b N : Nat) (h0 : eu a b (N + 1) = 0) (h1 : ∀ i, i < N + 1 → eu a b i ≠ 0) : ∀ j, j ≤ N + 1 → eu a b (N + 1 - j) % eu a b N = 0
  | 0, _ => by rw [Nat.sub_zero, h0, Nat.zero_mod]
  | 1, _ => by rw [Nat.add_sub_cancel, Nat.mod_self]
  | j + 2, hj => by
    have i1 := eu_divs a b N h0 h1 j (by omega)
    have i2 := eu_divs a b N h0 h1 (j + 1) (by omega)
    have hk : N + 1 - j = (N + 1 - (j + 2)) + 2 := by omega
    have hk1 : N + 1 - (j + 1) = (N + 1 - (j + 2)) + 1 := by omega
    rw [hk] at i1
    rw [hk1] at i2
    generalize N + 1 - (j + 2) = k at *
    have hn : eu a b (k + 1) ≠ 0 := by
      by_cases e : k + 1 < N + 1
      · exact h1 _ e
      · omega
    have e : eu a b (k + 2) = eu a b k % eu a b (k + 1) := by
      show mdN _ _ = _
      unfold mdN; rw [if_neg hn]
    rw [e] at i1
    have d := Nat.div_add_mod (eu a b k) (eu a b (k + 1))
    have d1 := Nat.dvd_of_mod_eq_zero i1
    have d2 := Nat.dvd_of_mod_eq_zero i2
    rw [← d]
    exact Nat.mod_eq_zero_of_dvd (Nat.dvd_add (Nat.dvd_trans d2 (Nat.dvd_mul_right _ _)) d1)
/-- The last that has come. -/
def lastN (a b : Nat) (pre : List Nat) : Nat := match pre.getLast? with
  | none => 0
  | some i => eu a b i
theorem lastN_snoc (a b : Nat) (pre : List Nat) (x : Nat) : lastN a b (pre ++ [x]) = eu a b x := by unfold lastN; simp
theorem lastN_end (a b N : Nat) (ha : a < MM) (hb : b < MM) (h0 : eu a b N = 0) (h1 : ∀ i, i < N → eu a b i ≠ 0) :
    ∃ d, lastN a b (List.range N) = d ∧ d < MM ∧ mdN a d = 0 ∧ ((a = 0 ∧ d = 0) ∨ (a ≠ 0 ∧ d ≠ 0 ∧ mdN b d = 0)) := by
  match N, h0, h1 with
  | 0, h0, _ =>
    have e : a = 0 := h0
    exact ⟨0, rfl, MM_pos, by unfold mdN; rw [if_pos rfl], .inl ⟨e, rfl⟩⟩
  | N + 1, h0, h1 =>
    have hd : eu a b N ≠ 0 := h1 N (by omega)
    have ha0 : a ≠ 0 := h1 0 (by omega)
    refine ⟨eu a b N, by rw [List.range_succ, lastN_snoc], eu_lt a b ha hb N, ?_, .inr ⟨ha0, hd, ?_⟩⟩
    · have h := eu_divs a b N h0 h1 (N + 1) (Nat.le_refl _)
      rw [Nat.sub_self] at h
      unfold mdN; rw [if_neg hd]; exact h
    · have h := eu_divs a b N h0 h1 N (by omega)
      rw [show N + 1 - N = 1 by omega] at h
      unfold mdN; rw [if_neg hd]; exact h
attribute [local irreducible] lb mdN

set_option maxRecDepth 100000 in
set_option maxHeartbeats 4000000 in
theorem ends_walk (a b : Nat) (ha : a < MM) (hb : b < MM) (w : World) :
    Calls Try.prog 7 #[W a, W b] w fun e w' => e = .returned (.bool true) ∧ Below w.heap.size w w' := by
  have hnil : ∀ (p q : Value) w, (binOp .eql 36 (.func (.func 45) #[] #[p, q]) .nilFunc).run Try.prog w = .ok (.bool false) w := fun _ _ _ => by kernel_rfl
  have HA := Lib.hid ha
  have HB := Lib.hid hb
  clear ha hb
  refine (callsIn_wide (n := 20)).1 ?_
  refine callsIn_of_wp_marks Try.func7 rfl trivial ?_ rfl
  simp only [Try.ntmps7, List.size_toArray, List.length_cons, List.length_nil, Nat.reduceAdd, Nat.reduceSub, Array.replicate_succ, Array.replicate_zero, List.push_toArray, List.append_toArray, List.nil_append, List.cons_append]
  refine (wpIn_wide (n := 20)).2 ?_
  go_wp2_with fail
  refine (steps_any a b _).mono ?_
  rintro e V ⟨rfl, rfl⟩
  have e0 : #[.int .u64 0, .int .u64 0, .int .u64 0, .int .u64 0] = Wc 0 := by unfold Wc; simp only [lb_zero]
  have bA : Blk (((((w.alloc (.cells (Wc a) 24)).alloc (.cells (Wc b) 24)).alloc (.cells (Wc 0) 24)).alloc (.cells (Wc a) 24)).alloc (.cells (Wc b) 24)) w.heap.size 24 (Wc a) := ((((Blk.new _ _ _).alloc _).alloc _).alloc _).alloc _
  have bB : Blk (((((w.alloc (.cells (Wc a) 24)).alloc (.cells (Wc b) 24)).alloc (.cells (Wc 0) 24)).alloc (.cells (Wc a) 24)).alloc (.cells (Wc b) 24)) (w.heap.size + 1) 24 (Wc b) := (((Blk.newS w _ _ _).alloc _).alloc _).alloc _
  have bL : Blk (((((w.alloc (.cells (Wc a) 24)).alloc (.cells (Wc b) 24)).alloc (.cells (Wc 0) 24)).alloc (.cells (Wc a) 24)).alloc (.cells (Wc b) 24)) (w.heap.size + 1 + 1) 24 (Wc 0) := by
    have h := Blk.newS (w.alloc (.cells (Wc a) 24)) (.cells (Wc b) 24) 24 (Wc 0)
    rw [World.size_alloc] at h
    exact (h.alloc _).alloc _
  have b1 : Blk (((((w.alloc (.cells (Wc a) 24)).alloc (.cells (Wc b) 24)).alloc (.cells (Wc 0) 24)).alloc (.cells (Wc a) 24)).alloc (.cells (Wc b) 24)) (w.heap.size + 1 + 1 + 1) 24 (Wc a) := by
    have h := Blk.newS ((w.alloc (.cells (Wc a) 24)).alloc (.cells (Wc b) 24)) (.cells (Wc 0) 24) 24 (Wc a)
    rw [World.size_alloc, World.size_alloc] at h
    exact h.alloc _
  have b2 : Blk (((((w.alloc (.cells (Wc a) 24)).alloc (.cells (Wc b) 24)).alloc (.cells (Wc 0) 24)).alloc (.cells (Wc a) 24)).alloc (.cells (Wc b) 24)) (w.heap.size + 1 + 1 + 1 + 1) 24 (Wc b) := by
    have h := Blk.newS (((w.alloc (.cells (Wc a) 24)).alloc (.cells (Wc b) 24)).alloc (.cells (Wc 0) 24)) (.cells (Wc a) 24) 24 (Wc b)
    rwa [World.size_alloc, World.size_alloc, World.size_alloc] at h
  have hW : Below w.heap.size w (((((w.alloc (.cells (Wc a) 24)).alloc (.cells (Wc b) 24)).alloc (.cells (Wc 0) 24)).alloc (.cells (Wc a) 24)).alloc (.cells (Wc b) 24)) := balloc (balloc (balloc (balloc (balloc (Below.refl _ _) _) _) _) _) _
  have hsz : (((((w.alloc (.cells (Wc a) 24)).alloc (.cells (Wc b) 24)).alloc (.cells (Wc 0) 24)).alloc (.cells (Wc a) 24)).alloc (.cells (Wc b) 24)).heap.size = w.heap.size + 5 := by simp
  go_wp2_with fail
  obtain ⟨W0, hW0⟩ : ∃ W0, ((((w.alloc (.cells (Wc a) 24)).alloc (.cells (Wc b) 24)).alloc (.cells (Wc 0) 24)).alloc (.cells (Wc a) 24)).alloc (.cells (Wc b) 24) = W0 := ⟨_, rfl⟩
  rw [hW0] at bA bB bL b1 b2 hW hsz

  rw [hW0]
  clear hW0 e0
  refine (wpIn_wide (n := 20)).1 ?_
  refine wpIn_rangeB (n := 20) (by omega) (gf := 45) (lb := #[.pointer (some ⟨w.heap.size + 1 + 1 + 1, 0, none⟩), .pointer (some ⟨w.heap.size + 1 + 1 + 1 + 1, 0, none⟩)]) rfl (enters_of Try.func45 (by kernel_rfl) rfl)
    (steps_seq (20 - 1) w.heap.size (w.heap.size + 1 + 1 + 1) (w.heap.size + 1 + 1 + 1 + 1) a b (by omega) HA.out HB.out W0 hW.size b1 b2) (Below.refl _ _) hW.size (fun _ => rfl)
    (fun pre X => ((Blk X w.heap.size 24 (Wc a) ∧ Blk X (w.heap.size + 1) 24 (Wc b)) ∧ Blk X (w.heap.size + 1 + 1) 24 (Wc (lastN a b pre))) ∧ Below w.heap.size w X)
    (fun _ _ _ => False)
    ((((Abide.blk bA.lt _ (fun _ => _)).and (Abide.blk bB.lt _ (fun _ => _))).and (Abide.blk bL.lt _ (fun pre => Wc (lastN a b pre)))).and (Abide.below (Nat.le_refl _) hW.size))
    (fun _ _ _ _ _ hs _ _ => hs) (fun _ _ _ => trivial) ⟨⟨⟨bA, bB⟩, bL⟩, hW⟩
    (fun x a' X => ∃ Bx, Blk X Bx 24 (Wc (eu a b x)) ∧ a' = { tmps := #[W a, W b, .pointer (some ⟨w.heap.size, 0, none⟩), .pointer (some ⟨w.heap.size + 1, 0, none⟩), .bool false, .pointer (some ⟨w.heap.size + 1 + 1, 0, none⟩), .func (.func 45) #[] #[.pointer (some ⟨w.heap.size + 1 + 1 + 1, 0, none⟩), .pointer (some ⟨w.heap.size + 1 + 1 + 1 + 1, 0, none⟩)], .pointer (some ⟨Bx, 0, none⟩), W a, W b, .func (.func 45) #[] #[.pointer (some ⟨w.heap.size + 1 + 1 + 1, 0, none⟩), .pointer (some ⟨w.heap.size + 1 + 1 + 1 + 1, 0, none⟩)], .func (.func 45) #[] #[.pointer (some ⟨w.heap.size + 1 + 1 + 1, 0, none⟩), .pointer (some ⟨w.heap.size + 1 + 1 + 1 + 1, 0, none⟩)], .bool false, .func (.func 45) #[] #[.pointer (some ⟨w.heap.size + 1 + 1 + 1, 0, none⟩), .pointer (some ⟨w.heap.size + 1 + 1 + 1 + 1, 0, none⟩)], W (eu a b x), undef, undef, undef, undef, undef, undef, undef, undef, undef, undef, undef, undef, undef, undef, undef, undef, undef, undef, undef, undef, undef, undef, undef, undef, undef, undef, undef, undef, undef, undef], defers := [] })
    (fun x a' _ X Y row hs hg hr => by obtain ⟨Bx, h1, h2⟩ := hs; exact ⟨Bx, blk_cells h1 hg (fun r e => (hr r e).2), h2⟩)
    ?assign ?body ?done ?stop
  case assign =>
    rintro l2 pre x X K _ hi hK
    gi_wp2
    exact hK _ _ (Kept.alloc _ _ _) ((Below.refl _ X).alloc hi.2.size _) ⟨⟨⟨hi.1.1.1.alloc _, hi.1.1.2.alloc _⟩, hi.1.2.alloc _⟩, balloc hi.2 _⟩ ⟨X.heap.size, Blk.new X _ _, rfl⟩
  case body =>
    rintro l2 pre x a' X hl2 _ _ ⟨⟨⟨hA, hB⟩, hL⟩, hW2⟩ ⟨Bx, hBx, rfl⟩
    have cx0 := (cell_of_row X _ 0 _ _ _ hBx).trans (wc_get _ 0 (by omega))
    have cl0 := (cell_of_row X _ 0 _ _ _ hL).trans (wc_get _ 0 (by omega))
    have fl0 := frozen_of_row X _ 0 _ _ hL
    have cx1 := (cell_of_row X _ 1 _ _ _ hBx).trans (wc_get _ 1 (by omega))
    have cl1 := (cell_of_row X _ 1 _ _ _ hL).trans (wc_get _ 1 (by omega))
    have fl1 := frozen_of_row X _ 1 _ _ hL
    have cx2 := (cell_of_row X _ 2 _ _ _ hBx).trans (wc_get _ 2 (by omega))
    have cl2 := (cell_of_row X _ 2 _ _ _ hL).trans (wc_get _ 2 (by omega))
    have fl2 := frozen_of_row X _ 2 _ _ hL
    have cx3 := (cell_of_row X _ 3 _ _ _ hBx).trans (wc_get _ 3 (by omega))
    have cl3 := (cell_of_row X _ 3 _ _ _ hL).trans (wc_get _ 3 (by omega))
    have fl3 := frozen_of_row X _ 3 _ _ hL
    have H := Lib.hid hA
    have HB2 := Lib.hid hB
    have HL := Lib.hid hL
    have HW2 := Lib.hid hW2
    clear hA hB hL hW2 hBx
    have hLl := bL.lt
    gi_wp2
    have hG := grown_set4 X (w.heap.size + 1 + 1) (.int .u64 (lb (eu a b x) 0)) (.int .u64 (lb (eu a b x) 1)) (.int .u64 (lb (eu a b x) 2)) (.int .u64 (lb (eu a b x) 3))
    exact ⟨Kept.grown hG (fun r e => by cases e; exact hLl), step_world (Below.refl _ X) hG HW2.out.size (by omega), ⟨⟨H.out.kept hG (by intro e; injection e; omega), HB2.out.kept hG (by intro e; injection e; omega)⟩, by rw [lastN_snoc]; exact HL.out.set4 _⟩, step_world HW2.out hG (Nat.le_refl _) (by omega)⟩
  case done =>
    rintro D xs X hD ⟨N, rfl, hN0, hN1⟩ ⟨⟨⟨hA, hB⟩, hL⟩, hW2⟩ hK
    obtain ⟨d, hd, hdM, hm, hcase⟩ := lastN_end a b N HA.out HB.out hN0 hN1
    rw [hd] at hL
    clear hN0 hN1 hd
    rename_i K1 hK1
    refine hK1 _ _ ?_
    have hWD : w.heap.size ≤ D := Nat.le_trans hW.size hD
    clear hK1 K1 hnil bA bB bL b1 b2 hW
    go_upto_region 8 with fail
    have hDX : D < X.heap.size := (Array.getElem?_eq_some_iff.1 hK).1
    have chA0 : ∀ w', Below X.heap.size X w' → w'.cell? ⟨w.heap.size, 0, none⟩ = some (.int .u64 (lb (a) 0)) := fun w' h => (cell_of_row _ _ 0 _ _ _ (hA.block_below h)).trans rfl
    have chA1 : ∀ w', Below X.heap.size X w' → w'.cell? ⟨w.heap.size, 1, none⟩ = some (.int .u64 (lb (a) 1)) := fun w' h => (cell_of_row _ _ 1 _ _ _ (hA.block_below h)).trans rfl
    have chA2 : ∀ w', Below X.heap.size X w' → w'.cell? ⟨w.heap.size, 2, none⟩ = some (.int .u64 (lb (a) 2)) := fun w' h => (cell_of_row _ _ 2 _ _ _ (hA.block_below h)).trans rfl
    have chA3 : ∀ w', Below X.heap.size X w' → w'.cell? ⟨w.heap.size, 3, none⟩ = some (.int .u64 (lb (a) 3)) := fun w' h => (cell_of_row _ _ 3 _ _ _ (hA.block_below h)).trans rfl
    have chB0 : ∀ w', Below X.heap.size X w' → w'.cell? ⟨w.heap.size + 1, 0, none⟩ = some (.int .u64 (lb (b) 0)) := fun w' h => (cell_of_row _ _ 0 _ _ _ (hB.block_below h)).trans rfl
    have chB1 : ∀ w', Below X.heap.size X w' → w'.cell? ⟨w.heap.size + 1, 1, none⟩ = some (.int .u64 (lb (b) 1)) := fun w' h => (cell_of_row _ _ 1 _ _ _ (hB.block_below h)).trans rfl
    have chB2 : ∀ w', Below X.heap.size X w' → w'.cell? ⟨w.heap.size + 1, 2, none⟩ = some (.int .u64 (lb (b) 2)) := fun w' h => (cell_of_row _ _ 2 _ _ _ (hB.block_below h)).trans rfl
    have chB3 : ∀ w', Below X.heap.size X w' → w'.cell? ⟨w.heap.size + 1, 3, none⟩ = some (.int .u64 (lb (b) 3)) := fun w' h => (cell_of_row _ _ 3 _ _ _ (hB.block_below h)).trans rfl
    have chL0 : ∀ w', Below X.heap.size X w' → w'.cell? ⟨w.heap.size + 1 + 1, 0, none⟩ = some (.int .u64 (lb (d) 0)) := fun w' h => (cell_of_row _ _ 0 _ _ _ (hL.block_below h)).trans rfl
    have chL1 : ∀ w', Below X.heap.size X w' → w'.cell? ⟨w.heap.size + 1 + 1, 1, none⟩ = some (.int .u64 (lb (d) 1)) := fun w' h => (cell_of_row _ _ 1 _ _ _ (hL.block_below h)).trans rfl
    have chL2 : ∀ w', Below X.heap.size X w' → w'.cell? ⟨w.heap.size + 1 + 1, 2, none⟩ = some (.int .u64 (lb (d) 2)) := fun w' h => (cell_of_row _ _ 2 _ _ _ (hL.block_below h)).trans rfl
    have chL3 : ∀ w', Below X.heap.size X w' → w'.cell? ⟨w.heap.size + 1 + 1, 3, none⟩ = some (.int .u64 (lb (d) 3)) := fun w' h => (cell_of_row _ _ 3 _ _ _ (hL.block_below h)).trans rfl
    have h0 : Below X.heap.size X X.drew := (Below.refl _ _).drew
    have HW2 := Lib.hid hW2
    have HK := Lib.hid hK
    have HD := Lib.hid hdM
    have hqm : ∀ w, (binOp .eql 24 (W (mdN a d)) (.agg #[.int .u64 0, .int .u64 0, .int .u64 0, .int .u64 0])).run Try.prog w = .ok (.bool true) w := fun w => by rw [eq_nought _ (mdN_lt _ _ HA.out), hm]; rfl
    clear hA hB hL hW2 hK hdM hm hsz
    rcases hcase with ⟨h1, h2⟩ | ⟨h1, h2, h3⟩
    · have hqa : ∀ w, (binOp .eql 24 (W a) (.agg #[.int .u64 0, .int .u64 0, .int .u64 0, .int .u64 0])).run Try.prog w = .ok (.bool true) w := fun w => by rw [eq_nought _ HA.out, h1]; rfl
      have hqd : ∀ w, (binOp .eql 24 (W d) (.agg #[.int .u64 0, .int .u64 0, .int .u64 0, .int .u64 0])).run Try.prog w = .ok (.bool true) w := fun w => by rw [eq_nought _ HD.out, h2]; rfl
      clear h1 h2
      refine wp_region_noPanic ?_
      refine wp_region_held_drew (S := fun w' => Below X.heap.size X w') (by as_aux_lemma => kernel_rfl) h0 (fun hHeld => ?_)
      simp only [List.size_toArray, List.length_cons, List.length_nil, Nat.reduceAdd, Array.replicate_succ, Array.replicate_zero, List.push_toArray, List.nil_append, List.cons_append]
      refine wpAnyH_take (i := 0) (oi := { dst := some 16, op := Op.load 24 (Operand.tmp 2), type := 24, pos := "law.go:86", after := #[], guard := none }) (v := ?vq0) rfl (by as_aux_lemma => kernel_rfl) (by as_aux_lemma => kernel_rfl) (by as_aux_lemma => kernel_rfl) (fun _ _ _ h => h) (Or.inl ⟨by rfl, ?yq0⟩) (by assumption) ?rq0
      case yq0 => (intro w hSw; (try dsimp only at hSw); go_simp <;> with_reducible rfl)
      simp only [Act.put, List.setIfInBounds_toArray, List.set_cons_zero, List.set_cons_succ]
      refine wpAnyH_take (i := 1) (oi := { dst := some 17, op := Op.build 24 #[], type := 24, pos := "law.go:86", after := #[], guard := none }) (v := ?vq1) rfl (by as_aux_lemma => kernel_rfl) (by as_aux_lemma => kernel_rfl) (by as_aux_lemma => kernel_rfl) (fun _ _ _ h => h) (Or.inl ⟨by rfl, ?yq1⟩) (by assumption) ?rq1
      case yq1 => (intro w hSw; (try dsimp only at hSw); go_simp <;> with_reducible rfl)
      simp only [Act.put, List.setIfInBounds_toArray, List.set_cons_zero, List.set_cons_succ]
      refine wpAnyH_take (i := 2) (oi := { dst := some 18, op := Op.binOp BinOp.eql 24 (Operand.tmp 16) (Operand.tmp 17) 24, type := 4, pos := "law.go:86", after := #[{ on := 0, ground := Ground.data }, { on := 1, ground := Ground.data }], guard := none }) (v := ?vq2) rfl (by as_aux_lemma => kernel_rfl) (by as_aux_lemma => kernel_rfl) (by as_aux_lemma => kernel_rfl) (fun _ _ _ h => h) (Or.inl ⟨by rfl, ?yq2⟩) (by assumption) ?rq2
      case yq2 => (intro w hSw; (try dsimp only at hSw); go_simp <;> with_reducible rfl)
      simp only [Act.put, List.setIfInBounds_toArray, List.set_cons_zero, List.set_cons_succ]
      refine wpAnyH_take (i := 3) (oi := { dst := some 19, op := Op.load 24 (Operand.tmp 5), type := 24, pos := "law.go:86", after := #[], guard := none }) (v := ?vq3) rfl (by as_aux_lemma => kernel_rfl) (by as_aux_lemma => kernel_rfl) (by as_aux_lemma => kernel_rfl) (fun _ _ _ h => h) (Or.inl ⟨by rfl, ?yq3⟩) (by assumption) ?rq3
      case yq3 => (intro w hSw; (try dsimp only at hSw); go_simp <;> with_reducible rfl)
      simp only [Act.put, List.setIfInBounds_toArray, List.set_cons_zero, List.set_cons_succ]
      refine wpAnyH_take (i := 4) (oi := { dst := some 20, op := Op.build 24 #[], type := 24, pos := "law.go:86", after := #[], guard := none }) (v := ?vq4) rfl (by as_aux_lemma => kernel_rfl) (by as_aux_lemma => kernel_rfl) (by as_aux_lemma => kernel_rfl) (fun _ _ _ h => h) (Or.inl ⟨by rfl, ?yq4⟩) (by assumption) ?rq4
      case yq4 => (intro w hSw; (try dsimp only at hSw); go_simp <;> with_reducible rfl)
      simp only [Act.put, List.setIfInBounds_toArray, List.set_cons_zero, List.set_cons_succ]
      refine wpAnyH_take (i := 5) (oi := { dst := some 21, op := Op.binOp BinOp.eql 24 (Operand.tmp 19) (Operand.tmp 20) 24, type := 4, pos := "law.go:86", after := #[{ on := 3, ground := Ground.data }, { on := 4, ground := Ground.data }], guard := none }) (v := ?vq5) rfl (by as_aux_lemma => kernel_rfl) (by as_aux_lemma => kernel_rfl) (by as_aux_lemma => kernel_rfl) (fun _ _ _ h => h) (Or.inl ⟨by rfl, ?yq5⟩) (by assumption) ?rq5
      case yq5 => (intro w hSw; (try dsimp only at hSw); go_simp <;> with_reducible rfl)
      simp only [Act.put, List.setIfInBounds_toArray, List.set_cons_zero, List.set_cons_succ]
      refine wpAnyH_take (i := 6) (oi := { dst := some 22, op := Op.binOp BinOp.eql 4 (Operand.tmp 18) (Operand.tmp 21) 4, type := 4, pos := "law.go:86", after := #[{ on := 2, ground := Ground.data }, { on := 5, ground := Ground.data }], guard := none }) (v := ?vq6) rfl (by as_aux_lemma => kernel_rfl) (by as_aux_lemma => kernel_rfl) (by as_aux_lemma => kernel_rfl) (fun _ _ _ h => h) (Or.inl ⟨by rfl, ?yq6⟩) (by assumption) ?rq6
      case yq6 => (intro w hSw; (try dsimp only at hSw); go_simp <;> with_reducible rfl)
      simp only [Act.put, List.setIfInBounds_toArray, List.set_cons_zero, List.set_cons_succ]
      refine wpAnyH_take (i := 7) (oi := { dst := some 23, op := Op.move (Operand.tmp 22), type := 4, pos := "law.go:86", after := #[{ on := 6, ground := Ground.data }], guard := none }) (v := ?vq7) rfl (by as_aux_lemma => kernel_rfl) (by as_aux_lemma => kernel_rfl) (by as_aux_lemma => kernel_rfl) (fun _ _ _ h => h) (Or.inl ⟨by rfl, ?yq7⟩) (by assumption) ?rq7
      case yq7 => (intro w hSw; (try dsimp only at hSw); go_simp <;> with_reducible rfl)
      simp only [Act.put, List.setIfInBounds_toArray, List.set_cons_zero, List.set_cons_succ]
      refine wpAnyH_take (i := 8) (oi := { dst := some 24, op := Op.load 24 (Operand.tmp 2), type := 24, pos := "law.go:86", after := #[{ on := 7, ground := Ground.guard }], guard := some (7, true) }) (v := ?vq8) rfl (by as_aux_lemma => kernel_rfl) (by as_aux_lemma => kernel_rfl) (by as_aux_lemma => kernel_rfl) (fun _ _ _ h => h) (Or.inl ⟨by rfl, ?yq8⟩) (by assumption) ?rq8
      case yq8 => (intro w hSw; (try dsimp only at hSw); go_simp <;> with_reducible rfl)
      simp only [Act.put, List.setIfInBounds_toArray, List.set_cons_zero, List.set_cons_succ]
      refine wpAnyH_take (i := 9) (oi := { dst := some 25, op := Op.load 24 (Operand.tmp 5), type := 24, pos := "law.go:86", after := #[{ on := 7, ground := Ground.guard }], guard := some (7, true) }) (v := ?vq9) rfl (by as_aux_lemma => kernel_rfl) (by as_aux_lemma => kernel_rfl) (by as_aux_lemma => kernel_rfl) (fun _ _ _ h => h) (Or.inl ⟨by rfl, ?yq9⟩) (by assumption) ?rq9
      case yq9 => (intro w hSw; (try dsimp only at hSw); go_simp <;> with_reducible rfl)
      simp only [Act.put, List.setIfInBounds_toArray, List.set_cons_zero, List.set_cons_succ]
      refine wpAnyH_take (i := 11) (oi := { dst := some 27, op := Op.build 24 #[], type := 24, pos := "law.go:86", after := #[{ on := 7, ground := Ground.guard }], guard := some (7, true) }) (v := ?vq10) rfl (by as_aux_lemma => kernel_rfl) (by as_aux_lemma => kernel_rfl) (by as_aux_lemma => kernel_rfl) (fun _ _ _ h => h) (Or.inl ⟨by rfl, ?yq10⟩) (by assumption) ?rq10
      case yq10 => (intro w hSw; (try dsimp only at hSw); go_simp <;> with_reducible rfl)
      simp only [Act.put, List.setIfInBounds_toArray, List.set_cons_zero, List.set_cons_succ]
      refine wpAnyH_ready (rs := [10]) (by as_aux_lemma => kernel_rfl) (by simp) ?_
      refine AllReadyH.cons (o := { dst := some 26, op := Op.call { callee := Callee.value (Operand.func 10), args := #[Operand.tmp 24, Operand.tmp 25], argTypes := #[24, 24] }, type := 24, pos := "law.go:86", after := #[{ on := 8, ground := Ground.data }, { on := 9, ground := Ground.data }, { on := 7, ground := Ground.chain }, { on := 7, ground := Ground.guard }], guard := some (7, true) }) rfl (fun K hK => ?_) (by exact AllReadyH.nil)
      rw [if_pos (by rfl)]
      go_simp
      (go_at_call 10; refine (mod_all a d HA.out HD.out _).mono ?_; rintro e wk ⟨rfl, hk⟩)
      refine hK.out _ _ (by (try dsimp only); (first | assumption | exact rstep (by assumption) (by assumption))) (fun hHeld => ?_)
      clear hK K
      simp only [List.setIfInBounds_toArray, List.set_cons_zero, List.set_cons_succ]
      refine wpAnyH_take (i := 12) (oi := { dst := some 28, op := Op.binOp BinOp.eql 24 (Operand.tmp 26) (Operand.tmp 27) 24, type := 4, pos := "law.go:86", after := #[{ on := 10, ground := Ground.data }, { on := 11, ground := Ground.data }, { on := 7, ground := Ground.guard }], guard := some (7, true) }) (v := ?vq12) rfl (by as_aux_lemma => kernel_rfl) (by as_aux_lemma => kernel_rfl) (by as_aux_lemma => kernel_rfl) (fun _ _ _ h => h) (Or.inl ⟨by rfl, ?yq12⟩) (by assumption) ?rq12
      case yq12 => (intro w hSw; (try dsimp only at hSw); go_simp <;> with_reducible rfl)
      simp only [Act.put, List.setIfInBounds_toArray, List.set_cons_zero, List.set_cons_succ]
      refine wpAnyH_take (i := 13) (oi := { dst := some 29, op := Op.pick (Operand.tmp 23) (Operand.tmp 28) (Operand.const (Value.bool false)), type := 4, pos := "law.go:86", after := #[{ on := 7, ground := Ground.data }, { on := 12, ground := Ground.data }], guard := none }) (v := ?vq13) rfl (by as_aux_lemma => kernel_rfl) (by as_aux_lemma => kernel_rfl) (by as_aux_lemma => kernel_rfl) (fun _ _ _ h => h) (Or.inl ⟨by rfl, ?yq13⟩) (by assumption) ?rq13
      case yq13 => (intro w hSw; (try dsimp only at hSw); go_simp <;> with_reducible rfl)
      simp only [Act.put, List.setIfInBounds_toArray, List.set_cons_zero, List.set_cons_succ]
      refine wpAnyH_take (i := 14) (oi := { dst := some 30, op := Op.move (Operand.tmp 29), type := 4, pos := "law.go:86", after := #[{ on := 13, ground := Ground.data }, { on := 10, ground := Ground.chain }], guard := none }) (v := ?vq14) rfl (by as_aux_lemma => kernel_rfl) (by as_aux_lemma => kernel_rfl) (by as_aux_lemma => kernel_rfl) (fun _ _ _ h => h) (Or.inl ⟨by rfl, ?yq14⟩) (by assumption) ?rq14
      case yq14 => (intro w hSw; (try dsimp only at hSw); go_simp <;> with_reducible rfl)
      simp only [Act.put, List.setIfInBounds_toArray, List.set_cons_zero, List.set_cons_succ]
      refine wpAnyH_take (i := 15) (oi := { dst := some 31, op := Op.load 24 (Operand.tmp 2), type := 24, pos := "law.go:86", after := #[{ on := 14, ground := Ground.guard }], guard := some (14, true) }) (v := ?vq15) rfl (by as_aux_lemma => kernel_rfl) (by as_aux_lemma => kernel_rfl) (by as_aux_lemma => kernel_rfl) (fun _ _ _ h => h) (Or.inl ⟨by rfl, ?yq15⟩) (by assumption) ?rq15
      case yq15 => (intro w hSw; (try dsimp only at hSw); go_simp <;> with_reducible rfl)
      simp only [Act.put, List.setIfInBounds_toArray, List.set_cons_zero, List.set_cons_succ]
      refine wpAnyH_take (i := 16) (oi := { dst := some 32, op := Op.build 24 #[], type := 24, pos := "law.go:86", after := #[{ on := 14, ground := Ground.guard }], guard := some (14, true) }) (v := ?vq16) rfl (by as_aux_lemma => kernel_rfl) (by as_aux_lemma => kernel_rfl) (by as_aux_lemma => kernel_rfl) (fun _ _ _ h => h) (Or.inl ⟨by rfl, ?yq16⟩) (by assumption) ?rq16
      case yq16 => (intro w hSw; (try dsimp only at hSw); go_simp <;> with_reducible rfl)
      simp only [Act.put, List.setIfInBounds_toArray, List.set_cons_zero, List.set_cons_succ]
      refine wpAnyH_take (i := 17) (oi := { dst := some 33, op := Op.binOp BinOp.eql 24 (Operand.tmp 31) (Operand.tmp 32) 24, type := 4, pos := "law.go:86", after := #[{ on := 15, ground := Ground.data }, { on := 16, ground := Ground.data }, { on := 14, ground := Ground.guard }], guard := some (14, true) }) (v := ?vq17) rfl (by as_aux_lemma => kernel_rfl) (by as_aux_lemma => kernel_rfl) (by as_aux_lemma => kernel_rfl) (fun _ _ _ h => h) (Or.inl ⟨by rfl, ?yq17⟩) (by assumption) ?rq17
      case yq17 => (intro w hSw; (try dsimp only at hSw); go_simp <;> with_reducible rfl)
      simp only [Act.put, List.setIfInBounds_toArray, List.set_cons_zero, List.set_cons_succ]
      refine wpAnyH_take (i := 18) (oi := { dst := some 34, op := Op.move (Operand.tmp 33), type := 4, pos := "law.go:86", after := #[{ on := 17, ground := Ground.data }, { on := 14, ground := Ground.chain }, { on := 14, ground := Ground.guard }], guard := some (14, true) }) (v := ?vq18) rfl (by as_aux_lemma => kernel_rfl) (by as_aux_lemma => kernel_rfl) (by as_aux_lemma => kernel_rfl) (fun _ _ _ h => h) (Or.inl ⟨by rfl, ?yq18⟩) (by assumption) ?rq18
      case yq18 => (intro w hSw; (try dsimp only at hSw); go_simp <;> with_reducible rfl)
      simp only [Act.put, List.setIfInBounds_toArray, List.set_cons_zero, List.set_cons_succ]
      refine wpAnyH_take (i := 19) (oi := { dst := some 35, op := Op.load 24 (Operand.tmp 3), type := 24, pos := "law.go:86", after := #[{ on := 18, ground := Ground.guard }], guard := some (18, false) }) (v := undef) rfl (by as_aux_lemma => kernel_rfl) (by as_aux_lemma => kernel_rfl) (by as_aux_lemma => kernel_rfl) (fun _ _ _ h => h) (Or.inr ⟨by rfl, rfl⟩) (by assumption) ?_
      simp only [Act.put, List.setIfInBounds_toArray, List.set_cons_zero, List.set_cons_succ]
      refine wpAnyH_take (i := 20) (oi := { dst := some 36, op := Op.load 24 (Operand.tmp 5), type := 24, pos := "law.go:86", after := #[{ on := 18, ground := Ground.guard }], guard := some (18, false) }) (v := undef) rfl (by as_aux_lemma => kernel_rfl) (by as_aux_lemma => kernel_rfl) (by as_aux_lemma => kernel_rfl) (fun _ _ _ h => h) (Or.inr ⟨by rfl, rfl⟩) (by assumption) ?_
      simp only [Act.put, List.setIfInBounds_toArray, List.set_cons_zero, List.set_cons_succ]
      refine wpAnyH_take (i := 21) (oi := { dst := some 37, op := Op.call { callee := Callee.value (Operand.func 10), args := #[Operand.tmp 35, Operand.tmp 36], argTypes := #[24, 24] }, type := 24, pos := "law.go:86", after := #[{ on := 19, ground := Ground.data }, { on := 20, ground := Ground.data }, { on := 18, ground := Ground.chain }, { on := 18, ground := Ground.guard }], guard := some (18, false) }) (v := undef) rfl (by as_aux_lemma => kernel_rfl) (by as_aux_lemma => kernel_rfl) (by as_aux_lemma => kernel_rfl) (fun _ _ _ h => h) (Or.inr ⟨by rfl, rfl⟩) (by assumption) ?_
      simp only [Act.put, List.setIfInBounds_toArray, List.set_cons_zero, List.set_cons_succ]
      refine wpAnyH_take (i := 22) (oi := { dst := some 38, op := Op.build 24 #[], type := 24, pos := "law.go:86", after := #[{ on := 18, ground := Ground.guard }], guard := some (18, false) }) (v := undef) rfl (by as_aux_lemma => kernel_rfl) (by as_aux_lemma => kernel_rfl) (by as_aux_lemma => kernel_rfl) (fun _ _ _ h => h) (Or.inr ⟨by rfl, rfl⟩) (by assumption) ?_
      simp only [Act.put, List.setIfInBounds_toArray, List.set_cons_zero, List.set_cons_succ]
      refine wpAnyH_take (i := 23) (oi := { dst := some 39, op := Op.binOp BinOp.eql 24 (Operand.tmp 37) (Operand.tmp 38) 24, type := 4, pos := "law.go:86", after := #[{ on := 21, ground := Ground.data }, { on := 22, ground := Ground.data }, { on := 18, ground := Ground.guard }], guard := some (18, false) }) (v := undef) rfl (by as_aux_lemma => kernel_rfl) (by as_aux_lemma => kernel_rfl) (by as_aux_lemma => kernel_rfl) (fun _ _ _ h => h) (Or.inr ⟨by rfl, rfl⟩) (by assumption) ?_
      simp only [Act.put, List.setIfInBounds_toArray, List.set_cons_zero, List.set_cons_succ]
      refine wpAnyH_take (i := 24) (oi := { dst := some 40, op := Op.pick (Operand.tmp 34) (Operand.const (Value.bool true)) (Operand.tmp 39), type := 4, pos := "law.go:86", after := #[{ on := 18, ground := Ground.data }, { on := 23, ground := Ground.data }, { on := 14, ground := Ground.guard }], guard := some (14, true) }) (v := ?vq24) rfl (by as_aux_lemma => kernel_rfl) (by as_aux_lemma => kernel_rfl) (by as_aux_lemma => kernel_rfl) (fun _ _ _ h => h) (Or.inl ⟨by rfl, ?yq24⟩) (by assumption) ?rq24
      case yq24 => (intro w hSw; (try dsimp only at hSw); go_simp <;> with_reducible rfl)
      simp only [Act.put, List.setIfInBounds_toArray, List.set_cons_zero, List.set_cons_succ]
      refine wpAnyH_take (i := 25) (oi := { dst := some 41, op := Op.pick (Operand.tmp 30) (Operand.tmp 40) (Operand.const (Value.bool false)), type := 4, pos := "law.go:86", after := #[{ on := 14, ground := Ground.data }, { on := 24, ground := Ground.data }], guard := none }) (v := ?vq25) rfl (by as_aux_lemma => kernel_rfl) (by as_aux_lemma => kernel_rfl) (by as_aux_lemma => kernel_rfl) (fun _ _ _ h => h) (Or.inl ⟨by rfl, ?yq25⟩) (by assumption) ?rq25
      case yq25 => (intro w hSw; (try dsimp only at hSw); go_simp <;> with_reducible rfl)
      simp only [Act.put, List.setIfInBounds_toArray, List.set_cons_zero, List.set_cons_succ]
      refine wpAnyH_take (i := 26) (oi := { dst := some 42, op := Op.move (Operand.tmp 41), type := 4, pos := "law.go:86", after := #[{ on := 25, ground := Ground.data }, { on := 21, ground := Ground.chain }], guard := none }) (v := ?vq26) rfl (by as_aux_lemma => kernel_rfl) (by as_aux_lemma => kernel_rfl) (by as_aux_lemma => kernel_rfl) (fun _ _ _ h => h) (Or.inl ⟨by rfl, ?yq26⟩) (by assumption) ?rq26
      case yq26 => (intro w hSw; (try dsimp only at hSw); go_simp <;> with_reducible rfl)
      simp only [Act.put, List.setIfInBounds_toArray, List.set_cons_zero, List.set_cons_succ]
      refine wpAnyH_ready (rs := [27]) (by as_aux_lemma => kernel_rfl) (by simp) ?_
      refine AllReadyH.cons (o := { dst := some 43, op := Op.call { callee := Callee.value (Operand.func 19), args := #[], argTypes := #[] }, type := 4, pos := "law.go:86", after := #[{ on := 26, ground := Ground.chain }, { on := 26, ground := Ground.guard }], guard := some (26, true) }) rfl (fun K hK => ?_) (by exact AllReadyH.nil)
      rw [if_pos (by rfl)]
      go_simp
      (go_at_call 19; refine (works_any _).mono ?_; rintro e wk ⟨rfl, hk⟩)
      refine hK.out _ _ (by (try dsimp only); (first | assumption | exact rstep (by assumption) (by assumption))) (fun hHeld => ?_)
      clear hK K
      simp only [List.setIfInBounds_toArray, List.set_cons_zero, List.set_cons_succ]
      refine wpAnyH_take (i := 28) (oi := { dst := some 44, op := Op.pick (Operand.tmp 42) (Operand.tmp 43) (Operand.const (Value.bool false)), type := 4, pos := "law.go:86", after := #[{ on := 26, ground := Ground.data }, { on := 27, ground := Ground.data }], guard := none }) (v := ?vq28) rfl (by as_aux_lemma => kernel_rfl) (by as_aux_lemma => kernel_rfl) (by as_aux_lemma => kernel_rfl) (fun _ _ _ h => h) (Or.inl ⟨by rfl, ?yq28⟩) (by assumption) ?rq28
      case yq28 => (intro w hSw; (try dsimp only at hSw); go_simp <;> with_reducible rfl)
      simp only [Act.put, List.setIfInBounds_toArray, List.set_cons_zero, List.set_cons_succ]
      refine wpAnyH_take (i := 29) (oi := { dst := some 4, op := Op.assign (Operand.tmp 44), type := 4, pos := "law.go:86", after := #[{ on := 28, ground := Ground.data }, { on := 27, ground := Ground.chain }, { on := 0, ground := Ground.phase }, { on := 1, ground := Ground.phase }, { on := 2, ground := Ground.phase }, { on := 3, ground := Ground.phase }, { on := 4, ground := Ground.phase }, { on := 5, ground := Ground.phase }, { on := 6, ground := Ground.phase }, { on := 7, ground := Ground.phase }, { on := 8, ground := Ground.phase }, { on := 9, ground := Ground.phase }, { on := 10, ground := Ground.phase }, { on := 11, ground := Ground.phase }, { on := 12, ground := Ground.phase }, { on := 13, ground := Ground.phase }, { on := 14, ground := Ground.phase }, { on := 15, ground := Ground.phase }, { on := 16, ground := Ground.phase }, { on := 17, ground := Ground.phase }, { on := 18, ground := Ground.phase }, { on := 19, ground := Ground.phase }, { on := 20, ground := Ground.phase }, { on := 21, ground := Ground.phase }, { on := 22, ground := Ground.phase }, { on := 23, ground := Ground.phase }, { on := 24, ground := Ground.phase }, { on := 25, ground := Ground.phase }, { on := 26, ground := Ground.phase }, { on := 27, ground := Ground.phase }, { on := 28, ground := Ground.phase }], guard := none }) (v := ?vq29) rfl (by as_aux_lemma => kernel_rfl) (by as_aux_lemma => kernel_rfl) (by as_aux_lemma => kernel_rfl) (fun _ _ _ h => h) (Or.inl ⟨by rfl, ?yq29⟩) (by assumption) ?rq29
      case yq29 => (intro w hSw; (try dsimp only at hSw); go_simp <;> with_reducible rfl)
      simp only [Act.put, List.setIfInBounds_toArray, List.set_cons_zero, List.set_cons_succ]
      refine wpAnyH_done (by as_aux_lemma => kernel_rfl) ?_ _
      refine NoPanic.normal ?_
      all_goals
        go_wp2
        have hX : Below X.heap.size X wk := by assumption
        refine ⟨by simp, .inl ⟨_, _, rfl, run_takeDeferred ((hX.block D hDX).trans HK.out), ?_⟩⟩
        exact ⟨_, results_tmp rfl _ _ _, rfl, (bstep HW2.out hX).trans (below_put _ _ hWD)⟩
    · have hqa : ∀ w, (binOp .eql 24 (W a) (.agg #[.int .u64 0, .int .u64 0, .int .u64 0, .int .u64 0])).run Try.prog w = .ok (.bool false) w := fun w => by rw [eq_nought _ HA.out]; simp [h1]
      have hqd : ∀ w, (binOp .eql 24 (W d) (.agg #[.int .u64 0, .int .u64 0, .int .u64 0, .int .u64 0])).run Try.prog w = .ok (.bool false) w := fun w => by rw [eq_nought _ HD.out]; simp [h2]
      have hqb : ∀ w, (binOp .eql 24 (W (mdN b d)) (.agg #[.int .u64 0, .int .u64 0, .int .u64 0, .int .u64 0])).run Try.prog w = .ok (.bool true) w := fun w => by rw [eq_nought _ (mdN_lt _ _ HB.out), h3]; rfl
      clear h1 h2 h3
      have hcA := Lib.hid (fun w => mod_all a d HA.out HD.out w)
      have hcB := Lib.hid (fun w => mod_all b d HB.out HD.out w)
      go_region_held3 (fun w' => Below X.heap.size X w') (first | assumption | exact rstep (by assumption) (by assumption))
        (first
          | (go_at_call 10; refine (hcA.out _).mono ?_; clear hcA; rintro e wk ⟨rfl, hk⟩)
          | (go_at_call 10; refine (hcB.out _).mono ?_; rintro e wk ⟨rfl, hk⟩)
          | (go_at_call 19; refine (works_any _).mono ?_; rintro e wk ⟨rfl, hk⟩))
      all_goals
        go_wp2
        have hX : Below X.heap.size X wk := by assumption
        refine ⟨by simp, .inl ⟨_, _, rfl, run_takeDeferred ((hX.block D hDX).trans HK.out), ?_⟩⟩
        exact ⟨_, results_tmp rfl _ _ _, rfl, (bstep HW2.out hX).trans (below_put _ _ hWD)⟩
  case stop =>
    rintro D c pre X _ _ h _
    exact h.elim
end Go.Proofs.Ytopnkkdbimmlhaa
