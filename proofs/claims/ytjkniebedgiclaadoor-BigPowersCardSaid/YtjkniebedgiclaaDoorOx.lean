/- big's laws: BigPowers: the walk. -/
import Derived.Test.YtjkniebedgiclaaDoorQa
namespace Go.Proofs.YtjkniebedgiclaaDoor
open Go.RowKit Go.Shelf

set_option maxRecDepth 100000 in
set_option maxHeartbeats 4000000 in
theorem powers_long (x1 x2 x3 : Option Addr) (n1 c1 n2 c2 n3 c3 : Nat) (w : World) (h : ¬ (n1 ≤ 20 ∧ n2 ≤ 20 ∧ n3 ≤ 20)) :
    Calls Tryd.prog 3 #[.slice x1 n1 c1, .slice x2 n2 c2, .slice x3 n3 c3] w fun e w' => e = .returned (.bool true) ∧ Below w.heap.size w w' := by
  have hF := few3_any w.heap.size n1 c1 n2 c2 n3 c3 x1 x2 x3 (w.alloc (.cells #[.slice x1 n1 c1, .slice x2 n2 c2, .slice x3 n3 c3] 22)) (Blk.new w _ _)
  rw [decide_eq_false h] at hF
  have HF := Lib.hid hF
  have HB := Lib.hid (balloc (Below.refl w.heap.size w) (.cells #[.slice x1 n1 c1, .slice x2 n2 c2, .slice x3 n3 c3] 22))
  clear h hF
  go_enter Tryd.func3, Tryd.ntmps3
  go_wp2_with (first | (go_at_call 7; refine HF.out.mono ?_; rintro e w1 ⟨rfl, rfl⟩) | (go_at_call 8; refine (works_any _).mono ?_; rintro e w9 ⟨rfl, h9⟩; have H9 := Lib.hid h9; clear h9) | fail)
  go_ret
  exact ⟨rfl, HB.out.trans (H9.out.mono HB.out.size)⟩
theorem pw_rs (a m : List Nat) : pwV a [1] m = rsV a m := by unfold pwV rsV; rw [show bv [1] = 1 from rfl, Nat.pow_one]
set_option maxRecDepth 100000 in
set_option maxHeartbeats 4000000 in
theorem powers_walk (al nl ml : List Nat) (x1 x2 x3 : Option Addr) (c1 c2 c3 : Nat) (w : World) (h1 : al.length ≤ 20) (h2 : nl.length ≤ 20) (h3 : ml.length ≤ 20) (ha : Bto w.heap.size w (.slice x1 al.length c1) al) (hn : Bto w.heap.size w (.slice x2 nl.length c2) nl) (hm : Bto w.heap.size w (.slice x3 ml.length c3) ml) :
    Calls Tryd.prog 3 #[.slice x1 al.length c1, .slice x2 nl.length c2, .slice x3 ml.length c3] w fun e w' => e = .returned (.bool true) ∧ Below w.heap.size w w' := by
  have hF := few3_any w.heap.size al.length c1 nl.length c2 ml.length c3 x1 x2 x3 (w.alloc (.cells #[.slice x1 al.length c1, .slice x2 nl.length c2, .slice x3 ml.length c3] 22)) (Blk.new w _ _)
  rw [decide_eq_true ⟨h1, h2, h3⟩] at hF
  obtain ⟨W1, hW1⟩ : ∃ W1, w.alloc (.cells #[.slice x1 al.length c1, .slice x2 nl.length c2, .slice x3 ml.length c3] 22) = W1 := ⟨_, rfl⟩
  have hB1 : Below w.heap.size w W1 := by rw [← hW1]; exact balloc (Below.refl w.heap.size w) _
  rw [hW1] at hF
  have HW1 := Lib.hid hW1
  have hp1 : ∀ Y, Below W1.heap.size W1 Y → Calls Tryd.prog 9 #[.slice x1 al.length c1, .slice x2 nl.length c2, .slice x3 ml.length c3] Y fun e w' => (∃ v, e = .returned (.tuple #[v, .int .i64 0]) ∧ Bto w'.heap.size w' v (tb (pwV al nl ml) ml.length)) ∧ Below Y.heap.size Y w' := fun Y hY => by
    have hw := hB1.trans (hY.mono hB1.size)
    exact power_any _ _ _ _ al nl ml Y (by omega) (by omega) (by omega) (ha.new hw) (hn.new hw) (hm.new hw)
  have hp2 : ∀ Y, Below W1.heap.size W1 Y → Calls Tryd.prog 10 #[.slice x1 al.length c1, .slice x3 ml.length c3] Y fun e w' => (∃ v, e = .returned (.tuple #[v, .int .i64 0]) ∧ Bto w'.heap.size w' v (tb (rsV al ml) ml.length)) ∧ Below Y.heap.size Y w' := fun Y hY => by
    have hw := hB1.trans (hY.mono hB1.size)
    have hp := rest_of _ _ _ al ml Y (by omega) (by omega) (ha.new hw) (hm.new hw)
    rw [pw_rs] at hp
    exact hp
  have hp3 : ∀ Y, Below W1.heap.size W1 Y → Calls Tryd.prog 11 #[.slice x1 al.length c1, .slice x2 nl.length c2, .slice x3 ml.length c3] Y fun e w' => (∃ v, e = .returned (.tuple #[v, .int .i64 0]) ∧ Bto w'.heap.size w' v (tb (pwV al nl ml) ml.length)) ∧ Below Y.heap.size Y w' := fun Y hY => by
    have hw := hB1.trans (hY.mono hB1.size)
    exact rpower_any _ _ _ _ _ _ al nl ml Y (by omega) (by omega) (by omega) (ha.new hw) (hn.new hw) (hm.new hw)
  have hp4 : ∀ Y, Below W1.heap.size W1 Y → Calls Tryd.prog 13 #[.slice x1 al.length c1, .slice x3 ml.length c3] Y fun e w' => (∃ v, e = .returned v ∧ Bto w'.heap.size w' v (tb (rsV al ml) ml.length)) ∧ Below Y.heap.size Y w' := fun Y hY => by
    have hw := hB1.trans (hY.mono hB1.size)
    exact rrest_any _ _ _ _ al ml Y (by omega) (by omega) (ha.new hw) (hm.new hw)
  obtain ⟨k, hk⟩ : ∃ k, ml.length = k := ⟨_, rfl⟩
  obtain ⟨ka, hka⟩ : ∃ k, al.length = k := ⟨_, rfl⟩
  obtain ⟨kn, hkn⟩ : ∃ k, nl.length = k := ⟨_, rfl⟩
  obtain ⟨V, hV⟩ : ∃ V, pwV al nl ml = V := ⟨_, rfl⟩
  obtain ⟨U, hU⟩ : ∃ V, rsV al ml = V := ⟨_, rfl⟩
  rw [hk, hka, hkn] at hp1 hp3 HW1 ⊢
  rw [hk, hka] at hp2 hp4
  rw [hV] at hp1 hp3
  rw [hU] at hp2 hp4
  rw [hk] at h3
  have HF := Lib.hid (And.intro hF hB1)
  have HP := Lib.hid (And.intro hp1 (And.intro hp2 (And.intro hp3 hp4)))
  clear hF hB1 h1 h2 ha hn hm hW1 hp1 hp2 hp3 hp4 hk hka hkn hV hU
  go_enter Tryd.func3, Tryd.ntmps3
  go_upto_region 6 with (first | (go_at_call 7; rw [HW1.out]; refine HF.out.1.mono ?_; rintro e w1 ⟨rfl, rfl⟩) | (go_at_call 9; refine (HP.out.1 _ (Below.refl _ _)).mono ?_; rintro e w2 ⟨⟨v2, rfl, g2⟩, hb2⟩; obtain ⟨y2, d2, rfl⟩ := g2.isTb; have H2 := Lib.hid (And.intro g2 hb2); clear g2 hb2) | (go_at_call 10; refine (HP.out.2.1 _ H2.out.2).mono ?_; rintro e w4 ⟨⟨v4, rfl, g4⟩, hb4⟩; obtain ⟨y4, d4, rfl⟩ := g4.isTb; have H4 := Lib.hid (And.intro g4 (And.intro (H2.out.1.new hb4).lift (H2.out.2.trans (hb4.mono H2.out.2.size)))); clear g4 hb4) | (go_at_call 11; refine (HP.out.2.2.1 _ H4.out.2.2).mono ?_; rintro e w5 ⟨⟨v5, rfl, g5⟩, hb5⟩; obtain ⟨y5, d5, rfl⟩ := g5.isTb; have H5 := Lib.hid (And.intro g5 (And.intro (H4.out.1.new hb5).lift (And.intro (H4.out.2.1.new hb5).lift (H4.out.2.2.trans (hb5.mono H4.out.2.2.size))))); clear g5 hb5) | fail)
  --REG6
  have hlen : ∀ V : Nat, (tb V k).length ≤ 100000 := fun V => by rw [tb_len]; omega
  have HC := Lib.hid (fun (Y : World) (hY : Below w5.heap.size w5 Y) => (by
    have q1 := conv_byteso _ _ _ Y (H5.out.1.new hY) (hlen V)
    have q2 := conv_byteso _ _ _ Y (H5.out.2.1.new hY) (hlen U)
    have q3 := conv_byteso _ _ _ Y (H5.out.2.2.1.new hY) (hlen V)
    exact ⟨q3, q1, q2⟩ : (convert 22 9 (.slice y2 k d2)).run Tryd.prog Y = .ok (.string (toS (tb V k))) Y ∧ (convert 22 9 (.slice y5 k d5)).run Tryd.prog Y = .ok (.string (toS (tb V k))) Y ∧ (convert 22 9 (.slice y4 k d4)).run Tryd.prog Y = .ok (.string (toS (tb U k))) Y))
  have hS0 : Below w5.heap.size w5 w5.drew := ⟨rfl, rfl, rfl, Nat.le_refl _, fun _ _ => rfl⟩
  have HT := Lib.hid (HP.out.2.2.2 w5.drew (H5.out.2.2.2.trans (hS0.mono H5.out.2.2.2.size)))
  have HL := Lib.hid hlen
  clear hlen
  refine wp_region_held_drew (S := fun w' => Below w5.heap.size w5 w') (by as_aux_lemma => kernel_rfl) hS0 (fun hHeld => ?_)
  simp only [List.size_toArray, List.length_cons, List.length_nil, Nat.reduceAdd, Array.replicate_succ, Array.replicate_zero, List.push_toArray, List.nil_append, List.cons_append]
  refine wpAnyH_take (i := 0) (oi := { dst := some 40, op := Op.move (Operand.tmp 7), type := 22, pos := "law.go:59", after := #[], guard := none }) (v := ?vq0) rfl (by as_aux_lemma => kernel_rfl) (by as_aux_lemma => kernel_rfl) (by as_aux_lemma => kernel_rfl) (fun _ _ _ h => h) (Or.inl ⟨by rfl, ?yq0⟩) (by assumption) ?rq0
  case yq0 => (intro w hSw; (try dsimp only at hSw); obtain ⟨cy1, cy2, cy3⟩ := HC.out w hSw; go_simp <;> with_reducible rfl)
  simp only [Act.put, List.setIfInBounds_toArray, List.set_cons_zero, List.set_cons_succ]
  refine wpAnyH_take (i := 1) (oi := { dst := some 41, op := Op.convert 22 9 (Operand.tmp 40), type := 9, pos := "law.go:59", after := #[{ on := 0, ground := Ground.data }], guard := none }) (v := ?vq1) rfl (by as_aux_lemma => kernel_rfl) (by as_aux_lemma => kernel_rfl) (by as_aux_lemma => kernel_rfl) (fun _ _ _ h => h) (Or.inl ⟨by rfl, ?yq1⟩) (by assumption) ?rq1
  case yq1 => (intro w hSw; (try dsimp only at hSw); obtain ⟨cy1, cy2, cy3⟩ := HC.out w hSw; go_simp <;> with_reducible rfl)
  simp only [Act.put, List.setIfInBounds_toArray, List.set_cons_zero, List.set_cons_succ]
  refine wpAnyH_take (i := 2) (oi := { dst := some 42, op := Op.move (Operand.tmp 11), type := 22, pos := "law.go:59", after := #[], guard := none }) (v := ?vq2) rfl (by as_aux_lemma => kernel_rfl) (by as_aux_lemma => kernel_rfl) (by as_aux_lemma => kernel_rfl) (fun _ _ _ h => h) (Or.inl ⟨by rfl, ?yq2⟩) (by assumption) ?rq2
  case yq2 => (intro w hSw; (try dsimp only at hSw); obtain ⟨cy1, cy2, cy3⟩ := HC.out w hSw; go_simp <;> with_reducible rfl)
  simp only [Act.put, List.setIfInBounds_toArray, List.set_cons_zero, List.set_cons_succ]
  refine wpAnyH_take (i := 3) (oi := { dst := some 43, op := Op.convert 22 9 (Operand.tmp 42), type := 9, pos := "law.go:59", after := #[{ on := 2, ground := Ground.data }], guard := none }) (v := ?vq3) rfl (by as_aux_lemma => kernel_rfl) (by as_aux_lemma => kernel_rfl) (by as_aux_lemma => kernel_rfl) (fun _ _ _ h => h) (Or.inl ⟨by rfl, ?yq3⟩) (by assumption) ?rq3
  case yq3 => (intro w hSw; (try dsimp only at hSw); obtain ⟨cy1, cy2, cy3⟩ := HC.out w hSw; go_simp <;> with_reducible rfl)
  simp only [Act.put, List.setIfInBounds_toArray, List.set_cons_zero, List.set_cons_succ]
  refine wpAnyH_take (i := 4) (oi := { dst := some 44, op := Op.binOp BinOp.eql 9 (Operand.tmp 41) (Operand.tmp 43) 9, type := 4, pos := "law.go:59", after := #[{ on := 1, ground := Ground.data }, { on := 3, ground := Ground.data }], guard := none }) (v := ?vq4) rfl (by as_aux_lemma => kernel_rfl) (by as_aux_lemma => kernel_rfl) (by as_aux_lemma => kernel_rfl) (fun _ _ _ h => h) (Or.inl ⟨by rfl, ?yq4⟩) (by assumption) ?rq4
  case yq4 => (intro w hSw; (try dsimp only at hSw); obtain ⟨cy1, cy2, cy3⟩ := HC.out w hSw; go_simp <;> with_reducible rfl)
  simp only [Act.put, List.setIfInBounds_toArray, List.set_cons_zero, List.set_cons_succ]
  refine wpAnyH_take (i := 5) (oi := { dst := some 45, op := Op.move (Operand.tmp 44), type := 4, pos := "law.go:59", after := #[{ on := 4, ground := Ground.data }], guard := none }) (v := ?vq5) rfl (by as_aux_lemma => kernel_rfl) (by as_aux_lemma => kernel_rfl) (by as_aux_lemma => kernel_rfl) (fun _ _ _ h => h) (Or.inl ⟨by rfl, ?yq5⟩) (by assumption) ?rq5
  case yq5 => (intro w hSw; (try dsimp only at hSw); obtain ⟨cy1, cy2, cy3⟩ := HC.out w hSw; go_simp <;> with_reducible rfl)
  simp only [Act.put, List.setIfInBounds_toArray, List.set_cons_zero, List.set_cons_succ]
  refine wpAnyH_take (i := 6) (oi := { dst := some 46, op := Op.move (Operand.tmp 8), type := 25, pos := "law.go:59", after := #[{ on := 5, ground := Ground.guard }], guard := some (5, true) }) (v := ?vq6) rfl (by as_aux_lemma => kernel_rfl) (by as_aux_lemma => kernel_rfl) (by as_aux_lemma => kernel_rfl) (fun _ _ _ h => h) (Or.inl ⟨by rfl, ?yq6⟩) (by assumption) ?rq6
  case yq6 => (intro w hSw; (try dsimp only at hSw); obtain ⟨cy1, cy2, cy3⟩ := HC.out w hSw; go_simp <;> with_reducible rfl)
  simp only [Act.put, List.setIfInBounds_toArray, List.set_cons_zero, List.set_cons_succ]
  refine wpAnyH_take (i := 8) (oi := { dst := some 48, op := Op.move (Operand.tmp 12), type := 3, pos := "law.go:59", after := #[{ on := 5, ground := Ground.guard }], guard := some (5, true) }) (v := ?vq7) rfl (by as_aux_lemma => kernel_rfl) (by as_aux_lemma => kernel_rfl) (by as_aux_lemma => kernel_rfl) (fun _ _ _ h => h) (Or.inl ⟨by rfl, ?yq7⟩) (by assumption) ?rq7
  case yq7 => (intro w hSw; (try dsimp only at hSw); obtain ⟨cy1, cy2, cy3⟩ := HC.out w hSw; go_simp <;> with_reducible rfl)
  simp only [Act.put, List.setIfInBounds_toArray, List.set_cons_zero, List.set_cons_succ]
  refine wpAnyH_ready (rs := [7]) (by as_aux_lemma => kernel_rfl) (by simp) ?_
  refine AllReadyH.cons (o := { dst := some 47, op := Op.call { callee := Callee.value (Operand.func 12), args := #[Operand.tmp 46], argTypes := #[25] }, type := 3, pos := "law.go:59", after := #[{ on := 6, ground := Ground.data }, { on := 5, ground := Ground.chain }, { on := 5, ground := Ground.guard }], guard := some (5, true) }) rfl (fun K hK => ?_) (by exact AllReadyH.nil)
  rw [if_pos (by rfl)]
  go_simp
  (go_at_call 12; refine (num_any _ _).mono ?_; rintro e w8 ⟨rfl, rfl⟩)
  refine hK.out _ _ (by (try dsimp only); (first | exact hS0 | exact HB6.out | exact HB9.out)) (fun hHeld => ?_)
  clear hK K
  simp only [List.setIfInBounds_toArray, List.set_cons_zero, List.set_cons_succ]
  refine wpAnyH_take (i := 9) (oi := { dst := some 49, op := Op.binOp BinOp.eql 3 (Operand.tmp 47) (Operand.tmp 48) 3, type := 4, pos := "law.go:59", after := #[{ on := 7, ground := Ground.data }, { on := 8, ground := Ground.data }, { on := 5, ground := Ground.guard }], guard := some (5, true) }) (v := ?vq9) rfl (by as_aux_lemma => kernel_rfl) (by as_aux_lemma => kernel_rfl) (by as_aux_lemma => kernel_rfl) (fun _ _ _ h => h) (Or.inl ⟨by rfl, ?yq9⟩) (by assumption) ?rq9
  case yq9 => (intro w hSw; (try dsimp only at hSw); obtain ⟨cy1, cy2, cy3⟩ := HC.out w hSw; go_simp <;> with_reducible rfl)
  simp only [Act.put, List.setIfInBounds_toArray, List.set_cons_zero, List.set_cons_succ]
  refine wpAnyH_take (i := 10) (oi := { dst := some 50, op := Op.pick (Operand.tmp 45) (Operand.tmp 49) (Operand.const (Value.bool false)), type := 4, pos := "law.go:59", after := #[{ on := 5, ground := Ground.data }, { on := 9, ground := Ground.data }], guard := none }) (v := ?vq10) rfl (by as_aux_lemma => kernel_rfl) (by as_aux_lemma => kernel_rfl) (by as_aux_lemma => kernel_rfl) (fun _ _ _ h => h) (Or.inl ⟨by rfl, ?yq10⟩) (by assumption) ?rq10
  case yq10 => (intro w hSw; (try dsimp only at hSw); obtain ⟨cy1, cy2, cy3⟩ := HC.out w hSw; go_simp <;> with_reducible rfl)
  simp only [Act.put, List.setIfInBounds_toArray, List.set_cons_zero, List.set_cons_succ]
  refine wpAnyH_take (i := 11) (oi := { dst := some 51, op := Op.move (Operand.tmp 50), type := 4, pos := "law.go:59", after := #[{ on := 10, ground := Ground.data }, { on := 7, ground := Ground.chain }], guard := none }) (v := ?vq11) rfl (by as_aux_lemma => kernel_rfl) (by as_aux_lemma => kernel_rfl) (by as_aux_lemma => kernel_rfl) (fun _ _ _ h => h) (Or.inl ⟨by rfl, ?yq11⟩) (by assumption) ?rq11
  case yq11 => (intro w hSw; (try dsimp only at hSw); obtain ⟨cy1, cy2, cy3⟩ := HC.out w hSw; go_simp <;> with_reducible rfl)
  simp only [Act.put, List.setIfInBounds_toArray, List.set_cons_zero, List.set_cons_succ]
  refine wpAnyH_take (i := 12) (oi := { dst := some 52, op := Op.move (Operand.tmp 9), type := 22, pos := "law.go:59", after := #[{ on := 11, ground := Ground.guard }], guard := some (11, true) }) (v := ?vq12) rfl (by as_aux_lemma => kernel_rfl) (by as_aux_lemma => kernel_rfl) (by as_aux_lemma => kernel_rfl) (fun _ _ _ h => h) (Or.inl ⟨by rfl, ?yq12⟩) (by assumption) ?rq12
  case yq12 => (intro w hSw; (try dsimp only at hSw); obtain ⟨cy1, cy2, cy3⟩ := HC.out w hSw; go_simp <;> with_reducible rfl)
  simp only [Act.put, List.setIfInBounds_toArray, List.set_cons_zero, List.set_cons_succ]
  refine wpAnyH_take (i := 13) (oi := { dst := some 53, op := Op.convert 22 9 (Operand.tmp 52), type := 9, pos := "law.go:59", after := #[{ on := 12, ground := Ground.data }, { on := 11, ground := Ground.guard }], guard := some (11, true) }) (v := ?vq13) rfl (by as_aux_lemma => kernel_rfl) (by as_aux_lemma => kernel_rfl) (by as_aux_lemma => kernel_rfl) (fun _ _ _ h => h) (Or.inl ⟨by rfl, ?yq13⟩) (by assumption) ?rq13
  case yq13 => (intro w hSw; (try dsimp only at hSw); obtain ⟨cy1, cy2, cy3⟩ := HC.out w hSw; go_simp <;> with_reducible rfl)
  simp only [Act.put, List.setIfInBounds_toArray, List.set_cons_zero, List.set_cons_succ]
  refine wpAnyH_take (i := 14) (oi := { dst := some 54, op := Op.move (Operand.tmp 0), type := 22, pos := "law.go:59", after := #[{ on := 11, ground := Ground.guard }], guard := some (11, true) }) (v := ?vq14) rfl (by as_aux_lemma => kernel_rfl) (by as_aux_lemma => kernel_rfl) (by as_aux_lemma => kernel_rfl) (fun _ _ _ h => h) (Or.inl ⟨by rfl, ?yq14⟩) (by assumption) ?rq14
  case yq14 => (intro w hSw; (try dsimp only at hSw); obtain ⟨cy1, cy2, cy3⟩ := HC.out w hSw; go_simp <;> with_reducible rfl)
  simp only [Act.put, List.setIfInBounds_toArray, List.set_cons_zero, List.set_cons_succ]
  refine wpAnyH_take (i := 15) (oi := { dst := some 55, op := Op.move (Operand.tmp 2), type := 22, pos := "law.go:59", after := #[{ on := 11, ground := Ground.guard }], guard := some (11, true) }) (v := ?vq15) rfl (by as_aux_lemma => kernel_rfl) (by as_aux_lemma => kernel_rfl) (by as_aux_lemma => kernel_rfl) (fun _ _ _ h => h) (Or.inl ⟨by rfl, ?yq15⟩) (by assumption) ?rq15
  case yq15 => (intro w hSw; (try dsimp only at hSw); obtain ⟨cy1, cy2, cy3⟩ := HC.out w hSw; go_simp <;> with_reducible rfl)
  simp only [Act.put, List.setIfInBounds_toArray, List.set_cons_zero, List.set_cons_succ]
  refine wpAnyH_ready (rs := [16]) (by as_aux_lemma => kernel_rfl) (by simp) ?_
  refine AllReadyH.cons (o := { dst := some 56, op := Op.call { callee := Callee.value (Operand.func 13), args := #[Operand.tmp 54, Operand.tmp 55], argTypes := #[22, 22] }, type := 22, pos := "law.go:59", after := #[{ on := 14, ground := Ground.data }, { on := 15, ground := Ground.data }, { on := 11, ground := Ground.chain }, { on := 11, ground := Ground.guard }], guard := some (11, true) }) rfl (fun K hK => ?_) (by exact AllReadyH.nil)
  rw [if_pos (by rfl)]
  go_simp
  (go_at_call 13; refine HT.out.mono ?_; rintro e w6 ⟨⟨v6, rfl, g6⟩, hb6⟩)
  have HB6 := Lib.hid (show Below w5.heap.size w5 w6 from hS0.trans hb6)
  have cv6 := conv_byteso _ _ _ w6 g6 (HL.out U)
  clear g6 hb6
  refine hK.out _ _ (by (try dsimp only); (first | exact hS0 | exact HB6.out | exact HB9.out)) (fun hHeld => ?_)
  clear hK K
  simp only [List.setIfInBounds_toArray, List.set_cons_zero, List.set_cons_succ]
  refine wpAnyH_ready (rs := [17]) (by as_aux_lemma => kernel_rfl) (by simp) ?_
  refine AllReadyH.cons (o := { dst := some 57, op := Op.convert 22 9 (Operand.tmp 56), type := 9, pos := "law.go:59", after := #[{ on := 16, ground := Ground.data }, { on := 11, ground := Ground.guard }], guard := some (11, true) }) rfl (fun K hK => ?_) (by exact AllReadyH.nil)
  rw [if_pos (by rfl)]
  go_simp
  refine hK.out _ _ (by (try dsimp only); (first | exact hS0 | exact HB6.out | exact HB9.out)) (fun hHeld => ?_)
  clear hK K
  simp only [List.setIfInBounds_toArray, List.set_cons_zero, List.set_cons_succ]
  refine wpAnyH_take (i := 18) (oi := { dst := some 58, op := Op.binOp BinOp.eql 9 (Operand.tmp 53) (Operand.tmp 57) 9, type := 4, pos := "law.go:59", after := #[{ on := 13, ground := Ground.data }, { on := 17, ground := Ground.data }, { on := 11, ground := Ground.guard }], guard := some (11, true) }) (v := ?vq18) rfl (by as_aux_lemma => kernel_rfl) (by as_aux_lemma => kernel_rfl) (by as_aux_lemma => kernel_rfl) (fun _ _ _ h => h) (Or.inl ⟨by rfl, ?yq18⟩) (by assumption) ?rq18
  case yq18 => (intro w hSw; (try dsimp only at hSw); obtain ⟨cy1, cy2, cy3⟩ := HC.out w hSw; go_simp <;> with_reducible rfl)
  simp only [Act.put, List.setIfInBounds_toArray, List.set_cons_zero, List.set_cons_succ]
  refine wpAnyH_take (i := 19) (oi := { dst := some 59, op := Op.pick (Operand.tmp 51) (Operand.tmp 58) (Operand.const (Value.bool false)), type := 4, pos := "law.go:59", after := #[{ on := 11, ground := Ground.data }, { on := 18, ground := Ground.data }], guard := none }) (v := ?vq19) rfl (by as_aux_lemma => kernel_rfl) (by as_aux_lemma => kernel_rfl) (by as_aux_lemma => kernel_rfl) (fun _ _ _ h => h) (Or.inl ⟨by rfl, ?yq19⟩) (by assumption) ?rq19
  case yq19 => (intro w hSw; (try dsimp only at hSw); obtain ⟨cy1, cy2, cy3⟩ := HC.out w hSw; go_simp <;> with_reducible rfl)
  simp only [Act.put, List.setIfInBounds_toArray, List.set_cons_zero, List.set_cons_succ]
  refine wpAnyH_take (i := 20) (oi := { dst := some 60, op := Op.move (Operand.tmp 59), type := 4, pos := "law.go:59", after := #[{ on := 19, ground := Ground.data }, { on := 16, ground := Ground.chain }], guard := none }) (v := ?vq20) rfl (by as_aux_lemma => kernel_rfl) (by as_aux_lemma => kernel_rfl) (by as_aux_lemma => kernel_rfl) (fun _ _ _ h => h) (Or.inl ⟨by rfl, ?yq20⟩) (by assumption) ?rq20
  case yq20 => (intro w hSw; (try dsimp only at hSw); obtain ⟨cy1, cy2, cy3⟩ := HC.out w hSw; go_simp <;> with_reducible rfl)
  simp only [Act.put, List.setIfInBounds_toArray, List.set_cons_zero, List.set_cons_succ]
  refine wpAnyH_take (i := 21) (oi := { dst := some 61, op := Op.move (Operand.tmp 10), type := 25, pos := "law.go:59", after := #[{ on := 20, ground := Ground.guard }], guard := some (20, true) }) (v := ?vq21) rfl (by as_aux_lemma => kernel_rfl) (by as_aux_lemma => kernel_rfl) (by as_aux_lemma => kernel_rfl) (fun _ _ _ h => h) (Or.inl ⟨by rfl, ?yq21⟩) (by assumption) ?rq21
  case yq21 => (intro w hSw; (try dsimp only at hSw); obtain ⟨cy1, cy2, cy3⟩ := HC.out w hSw; go_simp <;> with_reducible rfl)
  simp only [Act.put, List.setIfInBounds_toArray, List.set_cons_zero, List.set_cons_succ]
  refine wpAnyH_ready (rs := [22]) (by as_aux_lemma => kernel_rfl) (by simp) ?_
  refine AllReadyH.cons (o := { dst := some 62, op := Op.call { callee := Callee.value (Operand.func 12), args := #[Operand.tmp 61], argTypes := #[25] }, type := 3, pos := "law.go:59", after := #[{ on := 21, ground := Ground.data }, { on := 20, ground := Ground.chain }, { on := 20, ground := Ground.guard }], guard := some (20, true) }) rfl (fun K hK => ?_) (by exact AllReadyH.nil)
  rw [if_pos (by rfl)]
  go_simp
  (go_at_call 12; refine (num_any _ _).mono ?_; rintro e w8 ⟨rfl, rfl⟩)
  refine hK.out _ _ (by (try dsimp only); (first | exact hS0 | exact HB6.out | exact HB9.out)) (fun hHeld => ?_)
  clear hK K
  simp only [List.setIfInBounds_toArray, List.set_cons_zero, List.set_cons_succ]
  refine wpAnyH_take (i := 23) (oi := { dst := some 63, op := Op.binOp BinOp.eql 3 (Operand.tmp 62) (Operand.const (Value.int IntKind.i64 0)) 3, type := 4, pos := "law.go:59", after := #[{ on := 22, ground := Ground.data }, { on := 20, ground := Ground.guard }], guard := some (20, true) }) (v := ?vq23) rfl (by as_aux_lemma => kernel_rfl) (by as_aux_lemma => kernel_rfl) (by as_aux_lemma => kernel_rfl) (fun _ _ _ h => h) (Or.inl ⟨by rfl, ?yq23⟩) (by assumption) ?rq23
  case yq23 => (intro w hSw; (try dsimp only at hSw); obtain ⟨cy1, cy2, cy3⟩ := HC.out w hSw; go_simp <;> with_reducible rfl)
  simp only [Act.put, List.setIfInBounds_toArray, List.set_cons_zero, List.set_cons_succ]
  refine wpAnyH_take (i := 24) (oi := { dst := some 64, op := Op.pick (Operand.tmp 60) (Operand.tmp 63) (Operand.const (Value.bool false)), type := 4, pos := "law.go:59", after := #[{ on := 20, ground := Ground.data }, { on := 23, ground := Ground.data }], guard := none }) (v := ?vq24) rfl (by as_aux_lemma => kernel_rfl) (by as_aux_lemma => kernel_rfl) (by as_aux_lemma => kernel_rfl) (fun _ _ _ h => h) (Or.inl ⟨by rfl, ?yq24⟩) (by assumption) ?rq24
  case yq24 => (intro w hSw; (try dsimp only at hSw); obtain ⟨cy1, cy2, cy3⟩ := HC.out w hSw; go_simp <;> with_reducible rfl)
  simp only [Act.put, List.setIfInBounds_toArray, List.set_cons_zero, List.set_cons_succ]
  refine wpAnyH_take (i := 25) (oi := { dst := some 65, op := Op.move (Operand.tmp 64), type := 4, pos := "law.go:59", after := #[{ on := 24, ground := Ground.data }, { on := 22, ground := Ground.chain }], guard := none }) (v := ?vq25) rfl (by as_aux_lemma => kernel_rfl) (by as_aux_lemma => kernel_rfl) (by as_aux_lemma => kernel_rfl) (fun _ _ _ h => h) (Or.inl ⟨by rfl, ?yq25⟩) (by assumption) ?rq25
  case yq25 => (intro w hSw; (try dsimp only at hSw); obtain ⟨cy1, cy2, cy3⟩ := HC.out w hSw; go_simp <;> with_reducible rfl)
  simp only [Act.put, List.setIfInBounds_toArray, List.set_cons_zero, List.set_cons_succ]
  refine wpAnyH_ready (rs := [26]) (by as_aux_lemma => kernel_rfl) (by simp) ?_
  refine AllReadyH.cons (o := { dst := some 66, op := Op.call { callee := Callee.value (Operand.func 8), args := #[], argTypes := #[] }, type := 4, pos := "law.go:59", after := #[{ on := 25, ground := Ground.chain }, { on := 25, ground := Ground.guard }], guard := some (25, true) }) rfl (fun K hK => ?_) (by exact AllReadyH.nil)
  rw [if_pos (by rfl)]
  go_simp
  (go_at_call 8; refine (works_any _).mono ?_; rintro e w9 ⟨rfl, h9⟩)
  have HB9 := Lib.hid (show Below w5.heap.size w5 w9 from HB6.out.trans (h9.mono HB6.out.size))
  clear h9
  refine hK.out _ _ (by (try dsimp only); (first | exact hS0 | exact HB6.out | exact HB9.out)) (fun hHeld => ?_)
  clear hK K
  simp only [List.setIfInBounds_toArray, List.set_cons_zero, List.set_cons_succ]
  refine wpAnyH_take (i := 27) (oi := { dst := some 67, op := Op.pick (Operand.tmp 65) (Operand.tmp 66) (Operand.const (Value.bool false)), type := 4, pos := "law.go:59", after := #[{ on := 25, ground := Ground.data }, { on := 26, ground := Ground.data }], guard := none }) (v := ?vq27) rfl (by as_aux_lemma => kernel_rfl) (by as_aux_lemma => kernel_rfl) (by as_aux_lemma => kernel_rfl) (fun _ _ _ h => h) (Or.inl ⟨by rfl, ?yq27⟩) (by assumption) ?rq27
  case yq27 => (intro w hSw; (try dsimp only at hSw); obtain ⟨cy1, cy2, cy3⟩ := HC.out w hSw; go_simp <;> with_reducible rfl)
  simp only [Act.put, List.setIfInBounds_toArray, List.set_cons_zero, List.set_cons_succ]
  refine wpAnyH_take (i := 28) (oi := { dst := some 6, op := Op.assign (Operand.tmp 67), type := 4, pos := "law.go:59", after := #[{ on := 27, ground := Ground.data }, { on := 26, ground := Ground.chain }, { on := 0, ground := Ground.phase }, { on := 1, ground := Ground.phase }, { on := 2, ground := Ground.phase }, { on := 3, ground := Ground.phase }, { on := 4, ground := Ground.phase }, { on := 5, ground := Ground.phase }, { on := 6, ground := Ground.phase }, { on := 7, ground := Ground.phase }, { on := 8, ground := Ground.phase }, { on := 9, ground := Ground.phase }, { on := 10, ground := Ground.phase }, { on := 11, ground := Ground.phase }, { on := 12, ground := Ground.phase }, { on := 13, ground := Ground.phase }, { on := 14, ground := Ground.phase }, { on := 15, ground := Ground.phase }, { on := 16, ground := Ground.phase }, { on := 17, ground := Ground.phase }, { on := 18, ground := Ground.phase }, { on := 19, ground := Ground.phase }, { on := 20, ground := Ground.phase }, { on := 21, ground := Ground.phase }, { on := 22, ground := Ground.phase }, { on := 23, ground := Ground.phase }, { on := 24, ground := Ground.phase }, { on := 25, ground := Ground.phase }, { on := 26, ground := Ground.phase }, { on := 27, ground := Ground.phase }], guard := none }) (v := ?vq28) rfl (by as_aux_lemma => kernel_rfl) (by as_aux_lemma => kernel_rfl) (by as_aux_lemma => kernel_rfl) (fun _ _ _ h => h) (Or.inl ⟨by rfl, ?yq28⟩) (by assumption) ?rq28
  case yq28 => (intro w hSw; (try dsimp only at hSw); obtain ⟨cy1, cy2, cy3⟩ := HC.out w hSw; go_simp <;> with_reducible rfl)
  simp only [Act.put, List.setIfInBounds_toArray, List.set_cons_zero, List.set_cons_succ]
  refine wpAnyH_done (by as_aux_lemma => kernel_rfl) ?_ _
  clear hHeld hS0
  go_wp2_with fail
  go_ret
  exact ⟨rfl, HF.out.2.trans ((H5.out.2.2.2.trans (HB9.out.mono H5.out.2.2.2.size)).mono HF.out.2.size)⟩
end Go.Proofs.YtjkniebedgiclaaDoor
