/- item's law: ItemNumbers: the walk. -/
import Derived.Test.YtjmfnafbjfceoaaDoorJv
import Derived.Deep.RegionHeld3
import Derived.Deep.MidRow
namespace Go.Proofs.YtjmfnafbjfceoaaDoor
open Go.RowKit Go.Shelf
theorem yieldsIf_load_A {P : Program} {ops : Array Oper} {S : World → Prop} {op : Oper} {a : Act} (hw : Region.wanted op (yielded ops a.tmps) = true) (ty : TypeId) (x : Operand) (ho : op.op = .load ty x)
    (b o : Nat) (hx : a.eval x = .pointer (some ⟨b, o, none⟩)) (cs : Array Value) (d : TypeDesc) (hS : ∀ w, S w → w.rangeAt b o cs.toList)
    (hu : P.underlying ty = some d) (hd : d.isRow = true) (hi : (P.info? ty).map (·.size) = some cs.size) : YieldsIf P ops S op (.agg cs) a := by
  have h := yieldsIf_load_mid (P := P) (ops := ops) (S := S) hw ty x ho b o hx cs.toList d hS hu hd hi
  rwa [Array.toArray_toList] at h
theorem undW6 : Tryd.prog.underlying 47 = some (.array 4 45) := by kernel_rfl
theorem infoW6 {z : Nat} : (Tryd.prog.info? 47).map (·.size) = some (Wc z).size := by kernel_rfl
noncomputable def itD : TypeDesc := (Tryd.prog.underlying 25).getD (.array 0 0)
theorem undI : Tryd.prog.underlying 25 = some itD := by kernel_rfl
theorem rowI : itD.isRow = true := by kernel_rfl
theorem infoI {b : Bool} {x : Option Addr} {m c : Nat} {y : Option Addr} {n d : Nat} : (Tryd.prog.info? 25).map (·.size) = some (#[Value.bool b, .slice x m c, .slice y n d]).size := by kernel_rfl
attribute [local irreducible] lb wdG byA byC heL nuL toS
set_option maxRecDepth 100000 in
set_option maxHeartbeats 8000000 in
theorem numbers_walk (a : Nat) (ha : a < MM) (t : It) (v : Value) (w : World) (hv : ItO w.heap.size w t v) (hH : HD w) :
    Calls Tryd.prog 5 #[W a, v] w fun e w' => e = .returned (.bool true) ∧ Below w.heap.size w w' := by
  obtain ⟨b, x, m, c, y, n, d, hvv⟩ := id hv.is
  unfold itW at hvv
  subst hvv
  have HH := Lib.hid (And.intro hH (And.intro ha hv))
  clear hH ha hv
  go_enter Tryd.func5, Tryd.ntmps5
  go_wp2_with fail
  have hW0 : Below w.heap.size w ((w.alloc (.cells (Wc a) 47)).alloc (.cells #[.bool b, .slice x m c, .slice y n d] 25)) := balloc (balloc (Below.refl _ _) _) _
  have hA0 := (Blk.new w 47 (Wc a)).alloc (.cells #[.bool b, .slice x m c, .slice y n d] 25)
  have hX0 := Blk.newS w (.cells (Wc a) 47) 25 #[.bool b, .slice x m c, .slice y n d]
  refine (few_any w.heap.size w t _ HH.out.2.2 600 _ (by omega) (Int.le_refl _) hW0).mono ?_
  rintro e w1 ⟨⟨r, rfl, _, hr⟩, h1⟩
  have hA1 := hA0.keep h1
  have hX1 := hX0.keep h1
  have hW1 := bstep hW0 h1
  by_cases hr0 : 0 < r
  · have hsm := hr hr0
    have g0 : ¬ r ≤ 0 := by omega
    have k0 := (cell_of_row _ _ 0 _ _ _ hA1).trans (wc_get a 0 (by omega))
    have k1 := (cell_of_row _ _ 1 _ _ _ hA1).trans (wc_get a 1 (by omega))
    have k2 := (cell_of_row _ _ 2 _ _ _ hA1).trans (wc_get a 2 (by omega))
    have k3 := (cell_of_row _ _ 3 _ _ _ hA1).trans (wc_get a 3 (by omega))
    have H1 := Lib.hid (And.intro hsm (And.intro hA1 (And.intro hX1 hW1)))
    clear hW0 hA0 hX0 h1 hA1 hX1 hW1 hsm hr
    go_wp2_with fail
    refine (number_bt a _).mono ?_
    rintro e w2 ⟨v1, rfl, hn, h2⟩
    obtain ⟨_, x1, c1, rfl, _⟩ := id hn
    have H2 := Lib.hid (And.intro h2 hn)
    clear h2 hn k0 k1 k2 k3
    generalize hln : (nbL a).length = ln at H2 ⊢
    go_wp2_with fail
    have hst := balloc (Below.refl w2.heap.size w2) (.cells #[.bool false, .slice x1 ln c1, .slice none 0 0] 25)
    have hN := Blk.new w2 25 #[.bool false, .slice x1 ln c1, .slice none 0 0]
    have hs := bstep H2.out.1 hst
    have H3 := Lib.hid (And.intro H1.out.1 (And.intro (H1.out.2.1.keep hs) (And.intro (H1.out.2.2.1.keep hs) (And.intro (bstep H1.out.2.2.2 hs) (And.intro hN (H2.out.2.new hst))))))
    refine (word_number a HH.out.2.1 (.slice x1 ln c1) w2.heap.size _ hst.size H3.out.2.2.2.2.2).mono ?_
    rintro e w3 ⟨rfl, h3⟩
    have hst3 := bstep h3 (balloc (Below.refl w3.heap.size w3) (.cells (Wc a) 47))
    have hB3 := Blk.new w3 47 (Wc a)
    have hX3 := H3.out.2.2.1.keep hst3
    have x0 := cell_of_row _ _ 0 _ _ _ hX3
    have x1' := cell_of_row _ _ 1 _ _ _ hX3
    have x2 := cell_of_row _ _ 2 _ _ _ hX3
    have H4 := Lib.hid (And.intro H3.out.1 (And.intro (H3.out.2.1.keep hst3) (And.intro hX3 (And.intro (bstep H3.out.2.2.2.1 hst3) (And.intro (H3.out.2.2.2.2.1.keep hst3) (And.intro (H3.out.2.2.2.2.2.new hst3) hB3))))))
    clear hst hN hs h3 H2 H1 hst3 hB3 hX3 H3
    go_wp2_with fail
    have hsz4 := H4.out.2.2.2.1.size
    refine (word_itemo t _ w.heap.size _ hsz4 (HH.out.2.2.new H4.out.2.2.2.1) H4.out.1).mono ?_
    obtain ⟨co, hco⟩ : ∃ co, woT t = co := ⟨_, rfl⟩
    rw [hco]
    rintro e w4 ⟨rfl, h4⟩
    have hst4 := bstep h4 (balloc (Below.refl w4.heap.size w4) (.cells (Wc co.1) 47))
    have hB4 := Blk.new w4 47 (Wc co.1)
    have hX4 := H4.out.2.2.1.keep hst4
    have y0 := cell_of_row _ _ 0 _ _ _ hX4
    have y1' := cell_of_row _ _ 1 _ _ _ hX4
    have y2 := cell_of_row _ _ 2 _ _ _ hX4
    have H5 := Lib.hid (And.intro H4.out.1 (And.intro (H4.out.2.1.keep hst4) (And.intro hX4 (And.intro (bstep H4.out.2.2.2.1 hst4) (And.intro (H4.out.2.2.2.2.1.keep hst4) (And.intro (H4.out.2.2.2.2.2.1.new hst4) (And.intro (H4.out.2.2.2.2.2.2.keep hst4) hB4)))))))
    clear hsz4 h4 hst4 hB4 hX4 H4 x0 x1' x2
    go_wp2_with fail
    have hsz5 := H5.out.2.2.2.1.size
    refine (rword_itemo t _ w.heap.size _ hsz5 (HH.out.2.2.new H5.out.2.2.2.1) H5.out.1).mono ?_
    rw [hco]
    rintro e w5 ⟨rfl, h5⟩
    have hst5 := bstep h5 (balloc (Below.refl w5.heap.size w5) (.cells (Wc co.1) 47))
    have hB5 := Blk.new w5 47 (Wc co.1)
    have H6 := Lib.hid (And.intro (H5.out.2.1.keep hst5) (And.intro (H5.out.2.2.2.2.1.keep hst5) (And.intro (H5.out.2.2.2.2.2.1.new hst5) (And.intro (H5.out.2.2.2.2.2.2.1.keep hst5) (And.intro (H5.out.2.2.2.2.2.2.2.keep hst5) (And.intro hB5 (bstep H5.out.2.2.2.1 hst5)))))))
    clear hsz5 h5 hst5 hB5 H5 y0 y1' y2 hco
    have heWa : ∀ w, (binOp .eql 47 (W a) (W a)).run Tryd.prog w = .ok (.bool true) w := fun w => by rw [eqW]; simp
    have heWc : ∀ w, (binOp .eql 47 (W co.1) (W co.1)).run Tryd.prog w = .ok (.bool true) w := fun w => by rw [eqW]; simp
    obtain ⟨W5, hW5⟩ : ∃ W5, w5.alloc (.cells #[.int .u64 (lb co.1 0), .int .u64 (lb co.1 1), .int .u64 (lb co.1 2), .int .u64 (lb co.1 3)] 47) = W5 := ⟨_, rfl⟩
    have hW5' : w5.alloc (.cells (Wc co.1) 47) = W5 := hW5
    rw [hW5'] at H6
    have h0S : Below W5.heap.size W5 W5.drew := (Below.refl _ _).drew
    go_upto_region 29 with (fail)
    try rw [hW5]
    clear hW5 hW5'
    refine wp_region_held_drew (S := fun w' => Below W5.heap.size W5 w') (by as_aux_lemma => kernel_rfl) h0S (fun hHeld => ?_)
    simp only [List.size_toArray, List.length_cons, List.length_nil, Nat.reduceAdd, Array.replicate_succ, Array.replicate_zero, List.push_toArray, List.nil_append, List.cons_append]
    refine wpAnyH_take (i := 0) (oi := { dst := some 33, op := Op.load 25 (Operand.tmp 5), type := 25, pos := "law.go:86", after := #[], guard := none }) (v := .agg #[.bool false, .slice x1 ln c1, .slice none 0 0]) rfl (by as_aux_lemma => kernel_rfl) (by as_aux_lemma => kernel_rfl) (by as_aux_lemma => kernel_rfl) (fun _ _ _ h => h) (yieldsIf_load_A (by rfl) 25 (.tmp 5) rfl (w2.heap.size) 0 rfl #[.bool false, .slice x1 ln c1, .slice none 0 0] _ (fun w hw => (H6.out.2.1.keep hw).rangeAt) undI rowI infoI) (by assumption) ?_
    simp only [Act.put, List.setIfInBounds_toArray, List.set_cons_zero, List.set_cons_succ]
    refine wpAnyH_take (i := 1) (oi := { dst := some 34, op := Op.load 47 (Operand.tmp 2), type := 47, pos := "law.go:86", after := #[], guard := none }) (v := W a) rfl (by as_aux_lemma => kernel_rfl) (by as_aux_lemma => kernel_rfl) (by as_aux_lemma => kernel_rfl) (fun _ _ _ h => h) (yieldsIf_load_A (by rfl) 47 (.tmp 2) rfl (w.heap.size) 0 rfl (Wc a) _ (fun w hw => (H6.out.1.keep hw).rangeAt) undW6 rfl infoW6) (by assumption) ?_
    simp only [Act.put, List.setIfInBounds_toArray, List.set_cons_zero, List.set_cons_succ]
    refine wpAnyH_ready (rs := [2]) (by as_aux_lemma => kernel_rfl) (by simp) ?_
    refine AllReadyH.cons (o := { dst := some 35, op := Op.call { callee := Callee.value (Operand.func 22), args := #[Operand.tmp 34], argTypes := #[47] }, type := 25, pos := "law.go:86", after := #[{ on := 1, ground := Ground.data }], guard := none }) rfl (fun K hK => ?_) (by exact AllReadyH.nil)
    rw [if_pos (by rfl)]
    go_simp
    (go_at_call 22; refine (rnumber_bt a _).mono ?_; rintro e wk2 ⟨v2, rfl, hn2, hk2⟩; obtain ⟨_, x2, c2, he2, _⟩ := id hn2; rw [hln] at he2; subst he2)
    have hS2 := rstep hk2 (by assumption)
    have hSame := rsame_byteso w2.heap.size wk2.heap.size (.slice x1 ln c1) (.slice x2 ln c2) (nbL a) (nbL a) wk2 (H6.out.2.2.1.new hS2).bto hn2 (by rw [nbL_len]; have := wdN_le a; omega) (by rw [nbL_len]; have := wdN_le a; omega)
    rw [decide_eq_true rfl] at hSame
    have HSA := Lib.hid hSame
    clear hSame hn2
    refine hK.out _ _ (by (try dsimp only); (first | assumption | exact rstep (by assumption) (by assumption))) (fun hHeld => ?_)
    clear hK K
    simp only [List.setIfInBounds_toArray, List.set_cons_zero, List.set_cons_succ]
    refine wpAnyH_ready (rs := [3]) (by as_aux_lemma => kernel_rfl) (by simp) ?_
    refine AllReadyH.cons (o := { dst := some 36, op := Op.call { callee := Callee.value (Operand.func 14), args := #[Operand.tmp 33, Operand.tmp 35], argTypes := #[25, 25] }, type := 4, pos := "law.go:86", after := #[{ on := 0, ground := Ground.data }, { on := 2, ground := Ground.data }, { on := 2, ground := Ground.chain }], guard := none }) rfl (fun K hK => ?_) (by exact AllReadyH.nil)
    rw [if_pos (by rfl)]
    go_simp
    (go_at_call 14; refine HSA.out.mono ?_; rintro e wk3 ⟨rfl, hk3⟩)
    refine hK.out _ _ (by (try dsimp only); (first | assumption | exact rstep (by assumption) (by assumption))) (fun hHeld => ?_)
    clear hK K
    simp only [List.setIfInBounds_toArray, List.set_cons_zero, List.set_cons_succ]
    refine wpAnyH_take (i := 4) (oi := { dst := some 37, op := Op.move (Operand.tmp 36), type := 4, pos := "law.go:86", after := #[{ on := 3, ground := Ground.data }, { on := 3, ground := Ground.chain }], guard := none }) (v := ?vq4) rfl (by as_aux_lemma => kernel_rfl) (by as_aux_lemma => kernel_rfl) (by as_aux_lemma => kernel_rfl) (fun _ _ _ h => h) (Or.inl ⟨by rfl, ?yq4⟩) (by assumption) ?rq4
    case yq4 => (intro w hSw; (try dsimp only at hSw); go_simp <;> with_reducible rfl)
    simp only [Act.put, List.setIfInBounds_toArray, List.set_cons_zero, List.set_cons_succ]
    refine wpAnyH_take (i := 5) (oi := { dst := some 38, op := Op.load 47 (Operand.tmp 6), type := 47, pos := "law.go:86", after := #[{ on := 4, ground := Ground.guard }], guard := some (4, true) }) (v := W a) rfl (by as_aux_lemma => kernel_rfl) (by as_aux_lemma => kernel_rfl) (by as_aux_lemma => kernel_rfl) (fun _ _ _ h => h) (yieldsIf_load_A (by rfl) 47 (.tmp 6) rfl (w3.heap.size) 0 rfl (Wc a) _ (fun w hw => (H6.out.2.2.2.1.keep hw).rangeAt) undW6 rfl infoW6) (by assumption) ?_
    simp only [Act.put, List.setIfInBounds_toArray, List.set_cons_zero, List.set_cons_succ]
    refine wpAnyH_take (i := 6) (oi := { dst := some 39, op := Op.load 47 (Operand.tmp 2), type := 47, pos := "law.go:86", after := #[{ on := 4, ground := Ground.guard }], guard := some (4, true) }) (v := W a) rfl (by as_aux_lemma => kernel_rfl) (by as_aux_lemma => kernel_rfl) (by as_aux_lemma => kernel_rfl) (fun _ _ _ h => h) (yieldsIf_load_A (by rfl) 47 (.tmp 2) rfl (w.heap.size) 0 rfl (Wc a) _ (fun w hw => (H6.out.1.keep hw).rangeAt) undW6 rfl infoW6) (by assumption) ?_
    simp only [Act.put, List.setIfInBounds_toArray, List.set_cons_zero, List.set_cons_succ]
    refine wpAnyH_take (i := 7) (oi := { dst := some 40, op := Op.binOp BinOp.eql 47 (Operand.tmp 38) (Operand.tmp 39) 47, type := 4, pos := "law.go:86", after := #[{ on := 5, ground := Ground.data }, { on := 6, ground := Ground.data }, { on := 4, ground := Ground.guard }], guard := some (4, true) }) (v := ?vq7) rfl (by as_aux_lemma => kernel_rfl) (by as_aux_lemma => kernel_rfl) (by as_aux_lemma => kernel_rfl) (fun _ _ _ h => h) (Or.inl ⟨by rfl, ?yq7⟩) (by assumption) ?rq7
    case yq7 => (intro w hSw; (try dsimp only at hSw); go_simp <;> with_reducible rfl)
    simp only [Act.put, List.setIfInBounds_toArray, List.set_cons_zero, List.set_cons_succ]
    refine wpAnyH_take (i := 8) (oi := { dst := some 41, op := Op.pick (Operand.tmp 37) (Operand.tmp 40) (Operand.const (Value.bool false)), type := 4, pos := "law.go:86", after := #[{ on := 4, ground := Ground.data }, { on := 7, ground := Ground.data }], guard := none }) (v := ?vq8) rfl (by as_aux_lemma => kernel_rfl) (by as_aux_lemma => kernel_rfl) (by as_aux_lemma => kernel_rfl) (fun _ _ _ h => h) (Or.inl ⟨by rfl, ?yq8⟩) (by assumption) ?rq8
    case yq8 => (intro w hSw; (try dsimp only at hSw); go_simp <;> with_reducible rfl)
    simp only [Act.put, List.setIfInBounds_toArray, List.set_cons_zero, List.set_cons_succ]
    refine wpAnyH_take (i := 9) (oi := { dst := some 42, op := Op.move (Operand.tmp 41), type := 4, pos := "law.go:86", after := #[{ on := 8, ground := Ground.data }, { on := 4, ground := Ground.chain }], guard := none }) (v := ?vq9) rfl (by as_aux_lemma => kernel_rfl) (by as_aux_lemma => kernel_rfl) (by as_aux_lemma => kernel_rfl) (fun _ _ _ h => h) (Or.inl ⟨by rfl, ?yq9⟩) (by assumption) ?rq9
    case yq9 => (intro w hSw; (try dsimp only at hSw); go_simp <;> with_reducible rfl)
    simp only [Act.put, List.setIfInBounds_toArray, List.set_cons_zero, List.set_cons_succ]
    refine wpAnyH_take (i := 10) (oi := { dst := some 43, op := Op.move (Operand.tmp 7), type := 28, pos := "law.go:86", after := #[{ on := 9, ground := Ground.guard }], guard := some (9, true) }) (v := ?vq10) rfl (by as_aux_lemma => kernel_rfl) (by as_aux_lemma => kernel_rfl) (by as_aux_lemma => kernel_rfl) (fun _ _ _ h => h) (Or.inl ⟨by rfl, ?yq10⟩) (by assumption) ?rq10
    case yq10 => (intro w hSw; (try dsimp only at hSw); go_simp <;> with_reducible rfl)
    simp only [Act.put, List.setIfInBounds_toArray, List.set_cons_zero, List.set_cons_succ]
    refine wpAnyH_ready (rs := [11]) (by as_aux_lemma => kernel_rfl) (by simp) ?_
    refine AllReadyH.cons (o := { dst := some 44, op := Op.call { callee := Callee.value (Operand.func 12), args := #[Operand.tmp 43], argTypes := #[28] }, type := 3, pos := "law.go:86", after := #[{ on := 10, ground := Ground.data }, { on := 9, ground := Ground.chain }, { on := 9, ground := Ground.guard }], guard := some (9, true) }) rfl (fun K hK => ?_) (by exact AllReadyH.nil)
    rw [if_pos (by rfl)]
    go_simp
    (go_at_call 12; refine (num_any _ _).mono ?_; rintro e wk11 ⟨rfl, rfl⟩)
    refine hK.out _ _ (by (try dsimp only); (first | assumption | exact rstep (by assumption) (by assumption))) (fun hHeld => ?_)
    clear hK K
    simp only [List.setIfInBounds_toArray, List.set_cons_zero, List.set_cons_succ]
    refine wpAnyH_take (i := 12) (oi := { dst := some 45, op := Op.binOp BinOp.eql 3 (Operand.tmp 44) (Operand.const (Value.int IntKind.i64 0)) 3, type := 4, pos := "law.go:86", after := #[{ on := 11, ground := Ground.data }, { on := 9, ground := Ground.guard }], guard := some (9, true) }) (v := ?vq12) rfl (by as_aux_lemma => kernel_rfl) (by as_aux_lemma => kernel_rfl) (by as_aux_lemma => kernel_rfl) (fun _ _ _ h => h) (Or.inl ⟨by rfl, ?yq12⟩) (by assumption) ?rq12
    case yq12 => (intro w hSw; (try dsimp only at hSw); go_simp <;> with_reducible rfl)
    simp only [Act.put, List.setIfInBounds_toArray, List.set_cons_zero, List.set_cons_succ]
    refine wpAnyH_take (i := 13) (oi := { dst := some 46, op := Op.pick (Operand.tmp 42) (Operand.tmp 45) (Operand.const (Value.bool false)), type := 4, pos := "law.go:86", after := #[{ on := 9, ground := Ground.data }, { on := 12, ground := Ground.data }], guard := none }) (v := ?vq13) rfl (by as_aux_lemma => kernel_rfl) (by as_aux_lemma => kernel_rfl) (by as_aux_lemma => kernel_rfl) (fun _ _ _ h => h) (Or.inl ⟨by rfl, ?yq13⟩) (by assumption) ?rq13
    case yq13 => (intro w hSw; (try dsimp only at hSw); go_simp <;> with_reducible rfl)
    simp only [Act.put, List.setIfInBounds_toArray, List.set_cons_zero, List.set_cons_succ]
    refine wpAnyH_take (i := 14) (oi := { dst := some 47, op := Op.move (Operand.tmp 46), type := 4, pos := "law.go:86", after := #[{ on := 13, ground := Ground.data }, { on := 11, ground := Ground.chain }], guard := none }) (v := ?vq14) rfl (by as_aux_lemma => kernel_rfl) (by as_aux_lemma => kernel_rfl) (by as_aux_lemma => kernel_rfl) (fun _ _ _ h => h) (Or.inl ⟨by rfl, ?yq14⟩) (by assumption) ?rq14
    case yq14 => (intro w hSw; (try dsimp only at hSw); go_simp <;> with_reducible rfl)
    simp only [Act.put, List.setIfInBounds_toArray, List.set_cons_zero, List.set_cons_succ]
    refine wpAnyH_take (i := 15) (oi := { dst := some 48, op := Op.load 47 (Operand.tmp 8), type := 47, pos := "law.go:86", after := #[{ on := 14, ground := Ground.guard }], guard := some (14, true) }) (v := W co.1) rfl (by as_aux_lemma => kernel_rfl) (by as_aux_lemma => kernel_rfl) (by as_aux_lemma => kernel_rfl) (fun _ _ _ h => h) (yieldsIf_load_A (by rfl) 47 (.tmp 8) rfl (w4.heap.size) 0 rfl (Wc co.1) _ (fun w hw => (H6.out.2.2.2.2.1.keep hw).rangeAt) undW6 rfl infoW6) (by assumption) ?_
    simp only [Act.put, List.setIfInBounds_toArray, List.set_cons_zero, List.set_cons_succ]
    refine wpAnyH_take (i := 16) (oi := { dst := some 49, op := Op.load 47 (Operand.tmp 10), type := 47, pos := "law.go:86", after := #[{ on := 14, ground := Ground.guard }], guard := some (14, true) }) (v := W co.1) rfl (by as_aux_lemma => kernel_rfl) (by as_aux_lemma => kernel_rfl) (by as_aux_lemma => kernel_rfl) (fun _ _ _ h => h) (yieldsIf_load_A (by rfl) 47 (.tmp 10) rfl (w5.heap.size) 0 rfl (Wc co.1) _ (fun w hw => (H6.out.2.2.2.2.2.1.keep hw).rangeAt) undW6 rfl infoW6) (by assumption) ?_
    simp only [Act.put, List.setIfInBounds_toArray, List.set_cons_zero, List.set_cons_succ]
    refine wpAnyH_take (i := 17) (oi := { dst := some 50, op := Op.binOp BinOp.eql 47 (Operand.tmp 48) (Operand.tmp 49) 47, type := 4, pos := "law.go:86", after := #[{ on := 15, ground := Ground.data }, { on := 16, ground := Ground.data }, { on := 14, ground := Ground.guard }], guard := some (14, true) }) (v := ?vq17) rfl (by as_aux_lemma => kernel_rfl) (by as_aux_lemma => kernel_rfl) (by as_aux_lemma => kernel_rfl) (fun _ _ _ h => h) (Or.inl ⟨by rfl, ?yq17⟩) (by assumption) ?rq17
    case yq17 => (intro w hSw; (try dsimp only at hSw); go_simp <;> with_reducible rfl)
    simp only [Act.put, List.setIfInBounds_toArray, List.set_cons_zero, List.set_cons_succ]
    refine wpAnyH_take (i := 18) (oi := { dst := some 51, op := Op.pick (Operand.tmp 47) (Operand.tmp 50) (Operand.const (Value.bool false)), type := 4, pos := "law.go:86", after := #[{ on := 14, ground := Ground.data }, { on := 17, ground := Ground.data }], guard := none }) (v := ?vq18) rfl (by as_aux_lemma => kernel_rfl) (by as_aux_lemma => kernel_rfl) (by as_aux_lemma => kernel_rfl) (fun _ _ _ h => h) (Or.inl ⟨by rfl, ?yq18⟩) (by assumption) ?rq18
    case yq18 => (intro w hSw; (try dsimp only at hSw); go_simp <;> with_reducible rfl)
    simp only [Act.put, List.setIfInBounds_toArray, List.set_cons_zero, List.set_cons_succ]
    refine wpAnyH_take (i := 19) (oi := { dst := some 52, op := Op.move (Operand.tmp 51), type := 4, pos := "law.go:86", after := #[{ on := 18, ground := Ground.data }, { on := 14, ground := Ground.chain }], guard := none }) (v := ?vq19) rfl (by as_aux_lemma => kernel_rfl) (by as_aux_lemma => kernel_rfl) (by as_aux_lemma => kernel_rfl) (fun _ _ _ h => h) (Or.inl ⟨by rfl, ?yq19⟩) (by assumption) ?rq19
    case yq19 => (intro w hSw; (try dsimp only at hSw); go_simp <;> with_reducible rfl)
    simp only [Act.put, List.setIfInBounds_toArray, List.set_cons_zero, List.set_cons_succ]
    refine wpAnyH_take (i := 20) (oi := { dst := some 53, op := Op.move (Operand.tmp 9), type := 28, pos := "law.go:86", after := #[{ on := 19, ground := Ground.guard }], guard := some (19, true) }) (v := ?vq20) rfl (by as_aux_lemma => kernel_rfl) (by as_aux_lemma => kernel_rfl) (by as_aux_lemma => kernel_rfl) (fun _ _ _ h => h) (Or.inl ⟨by rfl, ?yq20⟩) (by assumption) ?rq20
    case yq20 => (intro w hSw; (try dsimp only at hSw); go_simp <;> with_reducible rfl)
    simp only [Act.put, List.setIfInBounds_toArray, List.set_cons_zero, List.set_cons_succ]
    refine wpAnyH_take (i := 22) (oi := { dst := some 55, op := Op.move (Operand.tmp 11), type := 3, pos := "law.go:86", after := #[{ on := 19, ground := Ground.guard }], guard := some (19, true) }) (v := ?vq21) rfl (by as_aux_lemma => kernel_rfl) (by as_aux_lemma => kernel_rfl) (by as_aux_lemma => kernel_rfl) (fun _ _ _ h => h) (Or.inl ⟨by rfl, ?yq21⟩) (by assumption) ?rq21
    case yq21 => (intro w hSw; (try dsimp only at hSw); go_simp <;> with_reducible rfl)
    simp only [Act.put, List.setIfInBounds_toArray, List.set_cons_zero, List.set_cons_succ]
    refine wpAnyH_ready (rs := [21]) (by as_aux_lemma => kernel_rfl) (by simp) ?_
    refine AllReadyH.cons (o := { dst := some 54, op := Op.call { callee := Callee.value (Operand.func 12), args := #[Operand.tmp 53], argTypes := #[28] }, type := 3, pos := "law.go:86", after := #[{ on := 20, ground := Ground.data }, { on := 19, ground := Ground.chain }, { on := 19, ground := Ground.guard }], guard := some (19, true) }) rfl (fun K hK => ?_) (by exact AllReadyH.nil)
    rw [if_pos (by rfl)]
    go_simp
    (go_at_call 12; refine (num_any _ _).mono ?_; rintro e wk21 ⟨rfl, rfl⟩)
    refine hK.out _ _ (by (try dsimp only); (first | assumption | exact rstep (by assumption) (by assumption))) (fun hHeld => ?_)
    clear hK K
    simp only [List.setIfInBounds_toArray, List.set_cons_zero, List.set_cons_succ]
    refine wpAnyH_take (i := 23) (oi := { dst := some 56, op := Op.binOp BinOp.eql 3 (Operand.tmp 54) (Operand.tmp 55) 3, type := 4, pos := "law.go:86", after := #[{ on := 21, ground := Ground.data }, { on := 22, ground := Ground.data }, { on := 19, ground := Ground.guard }], guard := some (19, true) }) (v := ?vq23) rfl (by as_aux_lemma => kernel_rfl) (by as_aux_lemma => kernel_rfl) (by as_aux_lemma => kernel_rfl) (fun _ _ _ h => h) (Or.inl ⟨by rfl, ?yq23⟩) (by assumption) ?rq23
    case yq23 => (intro w hSw; (try dsimp only at hSw); go_simp <;> with_reducible rfl)
    simp only [Act.put, List.setIfInBounds_toArray, List.set_cons_zero, List.set_cons_succ]
    refine wpAnyH_take (i := 24) (oi := { dst := some 57, op := Op.pick (Operand.tmp 52) (Operand.tmp 56) (Operand.const (Value.bool false)), type := 4, pos := "law.go:86", after := #[{ on := 19, ground := Ground.data }, { on := 23, ground := Ground.data }], guard := none }) (v := ?vq24) rfl (by as_aux_lemma => kernel_rfl) (by as_aux_lemma => kernel_rfl) (by as_aux_lemma => kernel_rfl) (fun _ _ _ h => h) (Or.inl ⟨by rfl, ?yq24⟩) (by assumption) ?rq24
    case yq24 => (intro w hSw; (try dsimp only at hSw); go_simp <;> with_reducible rfl)
    simp only [Act.put, List.setIfInBounds_toArray, List.set_cons_zero, List.set_cons_succ]
    refine wpAnyH_take (i := 25) (oi := { dst := some 58, op := Op.move (Operand.tmp 57), type := 4, pos := "law.go:86", after := #[{ on := 24, ground := Ground.data }, { on := 21, ground := Ground.chain }], guard := none }) (v := ?vq25) rfl (by as_aux_lemma => kernel_rfl) (by as_aux_lemma => kernel_rfl) (by as_aux_lemma => kernel_rfl) (fun _ _ _ h => h) (Or.inl ⟨by rfl, ?yq25⟩) (by assumption) ?rq25
    case yq25 => (intro w hSw; (try dsimp only at hSw); go_simp <;> with_reducible rfl)
    simp only [Act.put, List.setIfInBounds_toArray, List.set_cons_zero, List.set_cons_succ]
    refine wpAnyH_ready (rs := [26]) (by as_aux_lemma => kernel_rfl) (by simp) ?_
    refine AllReadyH.cons (o := { dst := some 59, op := Op.call { callee := Callee.value (Operand.func 9), args := #[], argTypes := #[] }, type := 4, pos := "law.go:86", after := #[{ on := 25, ground := Ground.chain }, { on := 25, ground := Ground.guard }], guard := some (25, true) }) rfl (fun K hK => ?_) (by exact AllReadyH.nil)
    rw [if_pos (by rfl)]
    go_simp
    (go_at_call 9; refine (works_any6 _ (HH.out.1.keep (bstep H6.out.2.2.2.2.2.2 (by assumption)))).mono ?_; rintro e wk26 ⟨rfl, hk26⟩)
    refine hK.out _ _ (by (try dsimp only); (first | assumption | exact rstep (by assumption) (by assumption))) (fun hHeld => ?_)
    clear hK K
    simp only [List.setIfInBounds_toArray, List.set_cons_zero, List.set_cons_succ]
    refine wpAnyH_take (i := 27) (oi := { dst := some 60, op := Op.pick (Operand.tmp 58) (Operand.tmp 59) (Operand.const (Value.bool false)), type := 4, pos := "law.go:86", after := #[{ on := 25, ground := Ground.data }, { on := 26, ground := Ground.data }], guard := none }) (v := ?vq27) rfl (by as_aux_lemma => kernel_rfl) (by as_aux_lemma => kernel_rfl) (by as_aux_lemma => kernel_rfl) (fun _ _ _ h => h) (Or.inl ⟨by rfl, ?yq27⟩) (by assumption) ?rq27
    case yq27 => (intro w hSw; (try dsimp only at hSw); go_simp <;> with_reducible rfl)
    simp only [Act.put, List.setIfInBounds_toArray, List.set_cons_zero, List.set_cons_succ]
    refine wpAnyH_take (i := 28) (oi := { dst := some 4, op := Op.assign (Operand.tmp 60), type := 4, pos := "law.go:86", after := #[{ on := 27, ground := Ground.data }, { on := 26, ground := Ground.chain }, { on := 0, ground := Ground.phase }, { on := 1, ground := Ground.phase }, { on := 2, ground := Ground.phase }, { on := 3, ground := Ground.phase }, { on := 4, ground := Ground.phase }, { on := 5, ground := Ground.phase }, { on := 6, ground := Ground.phase }, { on := 7, ground := Ground.phase }, { on := 8, ground := Ground.phase }, { on := 9, ground := Ground.phase }, { on := 10, ground := Ground.phase }, { on := 11, ground := Ground.phase }, { on := 12, ground := Ground.phase }, { on := 13, ground := Ground.phase }, { on := 14, ground := Ground.phase }, { on := 15, ground := Ground.phase }, { on := 16, ground := Ground.phase }, { on := 17, ground := Ground.phase }, { on := 18, ground := Ground.phase }, { on := 19, ground := Ground.phase }, { on := 20, ground := Ground.phase }, { on := 21, ground := Ground.phase }, { on := 22, ground := Ground.phase }, { on := 23, ground := Ground.phase }, { on := 24, ground := Ground.phase }, { on := 25, ground := Ground.phase }, { on := 26, ground := Ground.phase }, { on := 27, ground := Ground.phase }], guard := none }) (v := ?vq28) rfl (by as_aux_lemma => kernel_rfl) (by as_aux_lemma => kernel_rfl) (by as_aux_lemma => kernel_rfl) (fun _ _ _ h => h) (Or.inl ⟨by rfl, ?yq28⟩) (by assumption) ?rq28
    case yq28 => (intro w hSw; (try dsimp only at hSw); go_simp <;> with_reducible rfl)
    simp only [Act.put, List.setIfInBounds_toArray, List.set_cons_zero, List.set_cons_succ]
    refine wpAnyH_done (by as_aux_lemma => kernel_rfl) ?_ _
    have HE := Lib.hid (bstep H6.out.2.2.2.2.2.2 hHeld)
    go_wp2_with fail
    go_ret
    exact ⟨rfl, HE.out⟩
  · have g0 : r ≤ 0 := by omega
    have hWk := Lib.hid (works_any6 _ (HH.out.1.keep hW1))
    have H1 := Lib.hid hW1
    clear hW0 hA0 hX0 h1 hA1 hX1 hW1 hr
    go_wp2_with fail
    refine hWk.out.mono ?_
    rintro e w2 ⟨rfl, h2⟩
    have H2 := Lib.hid (bstep H1.out h2)
    clear h2 hWk H1
    go_wp2_with fail
    go_ret
    exact ⟨rfl, H2.out⟩
end Go.Proofs.YtjmfnafbjfceoaaDoor
