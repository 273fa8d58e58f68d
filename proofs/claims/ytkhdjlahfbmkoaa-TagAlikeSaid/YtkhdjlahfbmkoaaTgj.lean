/- tag: the reference's Join. -/
import Derived.Test.YtkhdjlahfbmkoaaTgi
namespace Go.Proofs.Ytkhdjlahfbmkoaa
open Go.RowKit Go.Shelf

theorem wp_app_run {P : Program} {w : World} {o : Oper} {a : Act} {K : Act → World → Prop} {Q : Exit → Act → World → Prop} (s x : Operand) (t : TypeId)
    (ho : o.op = .call { callee := .builtin .append, args := #[s, x], argTypes := #[t, t] }) {v u v' : Value} {w' : World} (hs : a.eval s = v) (hx : a.eval x = u)
    (hr : (Builtin.append_ #[t, t] o.type #[v, u]).run P w = .ok v' w') (hK : K (a.put o.dst v') w') : Oper.wp P o a w K Q := by
  unfold Oper.wp
  simp [execOp, ho, resolve, invoke, builtin, hs, hx, hr, Result.andThen]
  exact hK

/-- A cell appended that lies in a new box. -/
theorem app_cell (X : World) (base : Nat) (v : Value) (l : List (Nat × Nat)) (p : Nat × Nat) (ty : Nat) (hp : okC p) (h : OwT X base v l) (hb : base ≤ X.heap.size) (hl : l.length ≤ 1000000) :
    ∃ y c w', (Builtin.append_ #[22, 22] ty #[v, .slice (some ⟨X.heap.size, 0, none⟩) 1 1]).run Try.prog (X.alloc (.cells (cA p.1 p.2) 53)) = .ok (.slice y (l.length + 1) c) w' ∧ OwT w' base (.slice y (l.length + 1) c) (l ++ [p]) ∧ (X.alloc (.cells (cA p.1 p.2) 53)).grownBy w' v.ownBlock := by
  obtain ⟨i0, hi, hz0, hz1, hz2⟩ := info_parts' infoCell
  have hN := Blk.new X 53 (cA p.1 p.2)
  obtain ⟨v', w', h1, h2, h3, _⟩ := run_append_own (P := Try.prog) (X.alloc (.cells (cA p.1 p.2) 53)) base 22 ty 53 i0 (.agg #[.int .u8 0, .int .u64 0]) 2 16 und_sc hi hz0 hz1 hz2 rfl (by decide) v l.length (cvs l) (h.2.alloc _) ⟨X.heap.size, 0, none⟩ 1 1 [.int .u8 (p.1 : Nat), .int .u64 (p.2 : Nat)] rfl
    (by
      intro j u hj
      rcases j with _ | _ | j
      · simp at hj; subst hj; exact cell_of_row _ _ 0 _ _ _ hN
      · simp at hj; subst hj; exact cell_of_row _ _ 1 _ _ _ hN
      · simp at hj)
    (fun u hu => by simp at hu; rcases hu with rfl | rfl <;> rfl) (by unfold maxLen; omega) (by omega) (by rw [World.size_alloc]; omega)
  have h2' : OwT w' base v' (l ++ [p]) := by
    refine ⟨fun c hc => ?_, ?_⟩
    · rcases List.mem_append.1 hc with h9 | h9
      · exact h.1 c h9
      · simp at h9; subst h9; exact hp
    · rw [List.length_append, ← cvs_app]
      exact h2
  obtain ⟨y, c, e⟩ := h2'.is
  rw [List.length_append] at e
  subst e
  exact ⟨y, c, w', h1, h2', h3⟩
set_option maxRecDepth 100000 in
set_option maxHeartbeats 2000000 in
theorem rtjoin_any (B a : Nat) (ha : a < 2 ^ 64) (v : Value) (l : List (Nat × Nat)) (hl : l.length ≤ 1000000) (w : World) (hv : Cs B w v l) :
    Calls Try.prog 16 #[.int .u64 (a : Nat), v] w fun e w' => ∃ v', e = .returned v' ∧ OwT w' w.heap.size v' (l.map fun x => (x.1, a ||| x.2)) ∧ Below w.heap.size w w' := by
  have HV := Lib.hid hv
  obtain ⟨x, c, rfl⟩ := hv.is
  have HA := Lib.hid ha
  have HL := Lib.hid hl
  clear hv ha hl
  go_enter Try.func16, Try.ntmps16
  go_wp2_with fail
  go_loopw [5, 6] (fun v i wr => ∃ (k : Nat) (y : Option Addr) (c : Nat), k ≤ l.length ∧ i = .int .i64 k ∧ v = .slice y k c ∧ OwT wr w.heap.size (.slice y k c) ((l.map fun x => (x.1, a ||| x.2)).take k) ∧ Below w.heap.size w wr) (fun _ i _ => l.length - (intOf i).toNat)
  case atStart => exact ⟨0, none, 0, by omega, rfl, rfl, by rw [List.take_zero]; exact OwT.nil _ _, Below.refl _ _⟩
  case round =>
    obtain ⟨k, y0, cy0, hk, rfl, rfl, hown, hB⟩ := hrel
    have hmk : ((l.map fun x => (x.1, a ||| x.2)).take k).length = k := take_len _ _ (by rw [List.length_map]; exact hk)
    by_cases hlt : k < l.length
    · have hltI : (k : Int) < (l.length : Int) := by omega
      obtain ⟨b, o, c', e, hbX, c0, c1⟩ := Cs.at HV.out hlt
      injection e with e1 e2 e3
      subst e1 e3
      have hy0 := (hB.cell (p := ⟨b, o + k * 2, none⟩) hbX).trans c0
      have hy1 := (hB.cell (p := ⟨b, o + k * 2 + 1, none⟩) hbX).trans c1
      have hok := cg_ok HV.out.1 k
      have hmore := take_more (l.map fun x => (x.1, a ||| x.2)) k ((cg l k).1, a ||| (cg l k).2) (by rw [List.getElem?_map, cg_lt hlt]; rfl)
      have hL := HL.out
      have hor : a ||| (cg l k).2 < 2 ^ 64 := Nat.or_lt_two_pow HA.out hok.2
      have HM := Lib.hid (And.intro hmore (And.intro hown (And.intro hmk (And.intro hB (And.intro hok.1 hor)))))
      have HP2 := hok.2
      have hbw := hbX
      clear hmore hown hB hbX hmk c0 c1 e2 hok hor
      generalize (l.map fun x => (x.1, a ||| x.2)).take k = L at *
      generalize (cg l k).1 = p1 at *
      generalize (cg l k).2 = p2 at *
      have l1 : ∀ w' : World, (∀ p, w'.cell? p = wr.cell? p) → w'.cell? ⟨b, o + k * 2, none⟩ = some (.int .u8 (p1 : Nat)) := fun w' h => (h _).trans hy0
      have l2 : ∀ w' : World, (∀ p, w'.cell? p = wr.cell? p) → w'.cell? ⟨b, o + k * 2 + 1, none⟩ = some (.int .u64 (p2 : Nat)) := fun w' h => (h _).trans hy1
      go_upto_region 5 with fail
      have HJ := Lib.hid (fun X => rjoin_any a p2 HA.out HP2 X)
      have HOD : Hid (OwT wr.drew w.heap.size (.slice y0 k cy0) L ∧ w.heap.size ≤ wr.drew.heap.size ∧ k ≤ 1000000) := Lib.hid ⟨HM.out.2.1, HM.out.2.2.2.1.size, by omega⟩
      have HOD2 : Hid (Below w.heap.size w wr.drew) := Lib.hid HM.out.2.2.2.1.drew
      have HFAR := Lib.hid (fun (o5 : Obj) (w5 : World) (hg : (wr.drew.alloc o5).grownBy w5 (Value.ownBlock (.slice y0 k cy0))) => by
        have hne : (Value.slice y0 k cy0).ownBlock ≠ some b := fun e => by have := (HOD.out.1.2.lt b e).1; omega
        have hbl : b < (wr.drew.alloc o5).heap.size := by rw [World.size_alloc]; have := HOD.out.2.1; omega
        have e1 := hg.block b hbl (Ne.symm hne)
        have e2 := (balloc (Below.refl wr.drew.heap.size wr.drew) o5).block b (by have := HOD.out.2.1; omega)
        exact And.intro ((cell_heap (p := ⟨b, o + k * 2, none⟩) (e1.trans e2)).trans hy0) ((cell_heap (p := ⟨b, o + k * 2 + 1, none⟩) (e1.trans e2)).trans hy1))
      have hS0 : wr.drew.cell? ⟨b, o + k * 2, none⟩ = some (.int .u8 (p1 : Nat)) ∧ wr.drew.cell? ⟨b, o + k * 2 + 1, none⟩ = some (.int .u64 (p2 : Nat)) := ⟨hy0, hy1⟩
      have HAL := Lib.hid (fun (o5 : Obj) => by
        have e2 := (balloc (Below.refl wr.drew.heap.size wr.drew) o5).block b (by have := HOD.out.2.1; omega)
        exact And.intro ((cell_heap (X := wr.drew) (Y := wr.drew.alloc o5) (p := ⟨b, o + k * 2, none⟩) e2).trans hy0) ((cell_heap (X := wr.drew) (Y := wr.drew.alloc o5) (p := ⟨b, o + k * 2 + 1, none⟩) e2).trans hy1))
      clear hbw
      refine wp_region_held_drew (S := fun Z => Z.cell? ⟨b, o + k * 2, none⟩ = some (.int .u8 (p1 : Nat)) ∧ Z.cell? ⟨b, o + k * 2 + 1, none⟩ = some (.int .u64 (p2 : Nat))) (by as_aux_lemma => kernel_rfl) hS0 (fun hHeld => ?_)
      simp only [List.size_toArray, List.length_cons, List.length_nil, Nat.reduceAdd, Array.replicate_succ, Array.replicate_zero, List.push_toArray, List.nil_append, List.cons_append]
      refine wpAnyH_take (i := 0) (oi := { dst := some 13, op := Op.move (Operand.tmp 5), type := 22, pos := "ref.go:41", after := #[], guard := none }) (v := ?vq0) rfl (by as_aux_lemma => kernel_rfl) (by as_aux_lemma => kernel_rfl) (by as_aux_lemma => kernel_rfl) (fun _ _ _ h => h) (Or.inl ⟨by rfl, ?yq0⟩) (by assumption) ?rq0
      case yq0 => (intro w hSw; (try dsimp only at hSw); have m1 := hSw.1; have m2 := hSw.2; go_simp <;> with_reducible rfl)
      simp only [Act.put, List.setIfInBounds_toArray, List.set_cons_zero, List.set_cons_succ]
      refine wpAnyH_take (i := 1) (oi := { dst := some 14, op := Op.move (Operand.tmp 1), type := 22, pos := "ref.go:41", after := #[], guard := none }) (v := ?vq1) rfl (by as_aux_lemma => kernel_rfl) (by as_aux_lemma => kernel_rfl) (by as_aux_lemma => kernel_rfl) (fun _ _ _ h => h) (Or.inl ⟨by rfl, ?yq1⟩) (by assumption) ?rq1
      case yq1 => (intro w hSw; (try dsimp only at hSw); have m1 := hSw.1; have m2 := hSw.2; go_simp <;> with_reducible rfl)
      simp only [Act.put, List.setIfInBounds_toArray, List.set_cons_zero, List.set_cons_succ]
      refine wpAnyH_take (i := 2) (oi := { dst := some 15, op := Op.move (Operand.tmp 6), type := 3, pos := "ref.go:41", after := #[], guard := none }) (v := ?vq2) rfl (by as_aux_lemma => kernel_rfl) (by as_aux_lemma => kernel_rfl) (by as_aux_lemma => kernel_rfl) (fun _ _ _ h => h) (Or.inl ⟨by rfl, ?yq2⟩) (by assumption) ?rq2
      case yq2 => (intro w hSw; (try dsimp only at hSw); have m1 := hSw.1; have m2 := hSw.2; go_simp <;> with_reducible rfl)
      simp only [Act.put, List.setIfInBounds_toArray, List.set_cons_zero, List.set_cons_succ]
      refine wpAnyH_take (i := 3) (oi := { dst := some 16, op := Op.indexAddr 22 (Operand.tmp 14) (Operand.tmp 15), type := 0, pos := "ref.go:41", after := #[{ on := 1, ground := Ground.data }, { on := 2, ground := Ground.data }], guard := none }) (v := ?vq3) rfl (by as_aux_lemma => kernel_rfl) (by as_aux_lemma => kernel_rfl) (by as_aux_lemma => kernel_rfl) (fun _ _ _ h => h) (Or.inl ⟨by rfl, ?yq3⟩) (by assumption) ?rq3
      case yq3 => (intro w hSw; (try dsimp only at hSw); have m1 := hSw.1; have m2 := hSw.2; go_simp <;> with_reducible rfl)
      simp only [Act.put, List.setIfInBounds_toArray, List.set_cons_zero, List.set_cons_succ]
      refine wpAnyH_take (i := 4) (oi := { dst := some 17, op := Op.fieldAddr 53 (Operand.tmp 16) 0, type := 0, pos := "ref.go:41", after := #[{ on := 3, ground := Ground.data }], guard := none }) (v := ?vq4) rfl (by as_aux_lemma => kernel_rfl) (by as_aux_lemma => kernel_rfl) (by as_aux_lemma => kernel_rfl) (fun _ _ _ h => h) (Or.inl ⟨by rfl, ?yq4⟩) (by assumption) ?rq4
      case yq4 => (intro w hSw; (try dsimp only at hSw); have m1 := hSw.1; have m2 := hSw.2; go_simp <;> with_reducible rfl)
      simp only [Act.put, List.setIfInBounds_toArray, List.set_cons_zero, List.set_cons_succ]
      refine wpAnyH_take (i := 5) (oi := { dst := some 18, op := Op.load 5 (Operand.tmp 17), type := 5, pos := "ref.go:41", after := #[{ on := 4, ground := Ground.data }], guard := none }) (v := ?vq5) rfl (by as_aux_lemma => kernel_rfl) (by as_aux_lemma => kernel_rfl) (by as_aux_lemma => kernel_rfl) (fun _ _ _ h => h) (Or.inl ⟨by rfl, ?yq5⟩) (by assumption) ?rq5
      case yq5 => (intro w hSw; (try dsimp only at hSw); have m1 := hSw.1; have m2 := hSw.2; go_simp <;> with_reducible rfl)
      simp only [Act.put, List.setIfInBounds_toArray, List.set_cons_zero, List.set_cons_succ]
      refine wpAnyH_take (i := 6) (oi := { dst := some 19, op := Op.move (Operand.tmp 0), type := 27, pos := "ref.go:41", after := #[], guard := none }) (v := ?vq6) rfl (by as_aux_lemma => kernel_rfl) (by as_aux_lemma => kernel_rfl) (by as_aux_lemma => kernel_rfl) (fun _ _ _ h => h) (Or.inl ⟨by rfl, ?yq6⟩) (by assumption) ?rq6
      case yq6 => (intro w hSw; (try dsimp only at hSw); have m1 := hSw.1; have m2 := hSw.2; go_simp <;> with_reducible rfl)
      simp only [Act.put, List.setIfInBounds_toArray, List.set_cons_zero, List.set_cons_succ]
      refine wpAnyH_take (i := 7) (oi := { dst := some 20, op := Op.move (Operand.tmp 1), type := 22, pos := "ref.go:41", after := #[], guard := none }) (v := ?vq7) rfl (by as_aux_lemma => kernel_rfl) (by as_aux_lemma => kernel_rfl) (by as_aux_lemma => kernel_rfl) (fun _ _ _ h => h) (Or.inl ⟨by rfl, ?yq7⟩) (by assumption) ?rq7
      case yq7 => (intro w hSw; (try dsimp only at hSw); have m1 := hSw.1; have m2 := hSw.2; go_simp <;> with_reducible rfl)
      simp only [Act.put, List.setIfInBounds_toArray, List.set_cons_zero, List.set_cons_succ]
      refine wpAnyH_take (i := 8) (oi := { dst := some 21, op := Op.move (Operand.tmp 6), type := 3, pos := "ref.go:41", after := #[], guard := none }) (v := ?vq8) rfl (by as_aux_lemma => kernel_rfl) (by as_aux_lemma => kernel_rfl) (by as_aux_lemma => kernel_rfl) (fun _ _ _ h => h) (Or.inl ⟨by rfl, ?yq8⟩) (by assumption) ?rq8
      case yq8 => (intro w hSw; (try dsimp only at hSw); have m1 := hSw.1; have m2 := hSw.2; go_simp <;> with_reducible rfl)
      simp only [Act.put, List.setIfInBounds_toArray, List.set_cons_zero, List.set_cons_succ]
      refine wpAnyH_take (i := 9) (oi := { dst := some 22, op := Op.indexAddr 22 (Operand.tmp 20) (Operand.tmp 21), type := 0, pos := "ref.go:41", after := #[{ on := 7, ground := Ground.data }, { on := 8, ground := Ground.data }], guard := none }) (v := ?vq9) rfl (by as_aux_lemma => kernel_rfl) (by as_aux_lemma => kernel_rfl) (by as_aux_lemma => kernel_rfl) (fun _ _ _ h => h) (Or.inl ⟨by rfl, ?yq9⟩) (by assumption) ?rq9
      case yq9 => (intro w hSw; (try dsimp only at hSw); have m1 := hSw.1; have m2 := hSw.2; go_simp <;> with_reducible rfl)
      simp only [Act.put, List.setIfInBounds_toArray, List.set_cons_zero, List.set_cons_succ]
      refine wpAnyH_take (i := 10) (oi := { dst := some 23, op := Op.fieldAddr 53 (Operand.tmp 22) 1, type := 0, pos := "ref.go:41", after := #[{ on := 9, ground := Ground.data }], guard := none }) (v := ?vq10) rfl (by as_aux_lemma => kernel_rfl) (by as_aux_lemma => kernel_rfl) (by as_aux_lemma => kernel_rfl) (fun _ _ _ h => h) (Or.inl ⟨by rfl, ?yq10⟩) (by assumption) ?rq10
      case yq10 => (intro w hSw; (try dsimp only at hSw); have m1 := hSw.1; have m2 := hSw.2; go_simp <;> with_reducible rfl)
      simp only [Act.put, List.setIfInBounds_toArray, List.set_cons_zero, List.set_cons_succ]
      refine wpAnyH_take (i := 11) (oi := { dst := some 24, op := Op.load 27 (Operand.tmp 23), type := 27, pos := "ref.go:41", after := #[{ on := 10, ground := Ground.data }], guard := none }) (v := ?vq11) rfl (by as_aux_lemma => kernel_rfl) (by as_aux_lemma => kernel_rfl) (by as_aux_lemma => kernel_rfl) (fun _ _ _ h => h) (Or.inl ⟨by rfl, ?yq11⟩) (by assumption) ?rq11
      case yq11 => (intro w hSw; (try dsimp only at hSw); have m1 := hSw.1; have m2 := hSw.2; go_simp <;> with_reducible rfl)
      simp only [Act.put, List.setIfInBounds_toArray, List.set_cons_zero, List.set_cons_succ]
      refine wpAnyH_ready (rs := [12]) (by as_aux_lemma => kernel_rfl) (by simp) ?_
      refine AllReadyH.cons (o := { dst := some 25, op := Op.call { callee := Callee.value (Operand.func 39), args := #[Operand.tmp 19, Operand.tmp 24], argTypes := #[27, 27] }, type := 27, pos := "ref.go:41", after := #[{ on := 6, ground := Ground.data }, { on := 11, ground := Ground.data }], guard := none }) rfl (fun K hK => ?_) (by exact AllReadyH.nil)
      rw [if_pos (by rfl)]
      go_simp
      refine (HJ.out _).mono ?_
      rintro e w1 ⟨rfl, rfl⟩
      refine hK.out _ _ (by (try dsimp only); (first | exact hS0 | exact HAL.out _ | exact hcells)) (fun hHeld => ?_)
      clear hK K
      simp only [List.setIfInBounds_toArray, List.set_cons_zero, List.set_cons_succ]
      refine wpAnyH_take (i := 13) (oi := { dst := some 26, op := Op.build 53 #[(0, Operand.tmp 18), (1, Operand.tmp 25)], type := 53, pos := "ref.go:41", after := #[{ on := 5, ground := Ground.data }, { on := 12, ground := Ground.data }], guard := none }) (v := ?vq13) rfl (by as_aux_lemma => kernel_rfl) (by as_aux_lemma => kernel_rfl) (by as_aux_lemma => kernel_rfl) (fun _ _ _ h => h) (Or.inl ⟨by rfl, ?yq13⟩) (by assumption) ?rq13
      case yq13 => (intro w hSw; (try dsimp only at hSw); have m1 := hSw.1; have m2 := hSw.2; go_simp <;> with_reducible rfl)
      simp only [Act.put, List.setIfInBounds_toArray, List.set_cons_zero, List.set_cons_succ]
      refine wpAnyH_ready (rs := [14]) (by as_aux_lemma => kernel_rfl) (by simp) ?_
      refine AllReadyH.cons (o := { dst := some 27, op := Op.buildSlice 22 1 #[(0, Operand.tmp 26)], type := 22, pos := "ref.go:41", after := #[{ on := 13, ground := Ground.data }], guard := none }) rfl (fun K hK => ?_) (by exact AllReadyH.nil)
      rw [if_pos (by rfl)]
      go_simp
      refine hK.out _ _ (by (try dsimp only); (first | exact hS0 | exact HAL.out _ | exact hcells)) (fun hHeld => ?_)
      clear hK K
      simp only [List.setIfInBounds_toArray, List.set_cons_zero, List.set_cons_succ]
      refine wpAnyH_ready (rs := [15]) (by as_aux_lemma => kernel_rfl) (by simp) ?_
      refine AllReadyH.cons (o := { dst := some 28, op := Op.call { callee := Callee.builtin Builtin.append, args := #[Operand.tmp 13, Operand.tmp 27], argTypes := #[22, 22] }, type := 22, pos := "ref.go:41", after := #[{ on := 0, ground := Ground.data }, { on := 14, ground := Ground.data }, { on := 12, ground := Ground.chain }], guard := none }) rfl (fun K hK => ?_) (by exact AllReadyH.nil)
      rw [if_pos (by rfl)]
      obtain ⟨y2, c2, w5, hrun, hO5, hg5⟩ := app_cell wr.drew w.heap.size (.slice y0 k cy0) L (p1, a ||| p2) 22 ⟨HM.out.2.2.2.2.1, HM.out.2.2.2.2.2⟩ HOD.out.1 HOD.out.2.1 (by have := HOD.out.2.2; have h3 := HM.out.2.2.1; omega)
      refine wp_app_run (.tmp 13) (.tmp 27) 22 rfl rfl rfl hrun ?_
      have hcells : w5.cell? ⟨b, o + k * 2, none⟩ = some (.int .u8 (p1 : Nat)) ∧ w5.cell? ⟨b, o + k * 2 + 1, none⟩ = some (.int .u64 (p2 : Nat)) := HFAR.out _ _ hg5
      refine hK.out _ _ (by (try dsimp only); (first | exact hS0 | exact HAL.out _ | exact hcells)) (fun hHeld => ?_)
      clear hK K
      simp only [Act.put, List.setIfInBounds_toArray, List.set_cons_zero, List.set_cons_succ]
      refine wpAnyH_take (i := 16) (oi := { dst := some 5, op := Op.assign (Operand.tmp 28), type := 22, pos := "ref.go:41", after := #[{ on := 15, ground := Ground.data }, { on := 15, ground := Ground.chain }, { on := 0, ground := Ground.phase }, { on := 1, ground := Ground.phase }, { on := 2, ground := Ground.phase }, { on := 3, ground := Ground.phase }, { on := 4, ground := Ground.phase }, { on := 5, ground := Ground.phase }, { on := 6, ground := Ground.phase }, { on := 7, ground := Ground.phase }, { on := 8, ground := Ground.phase }, { on := 9, ground := Ground.phase }, { on := 10, ground := Ground.phase }, { on := 11, ground := Ground.phase }, { on := 12, ground := Ground.phase }, { on := 13, ground := Ground.phase }, { on := 14, ground := Ground.phase }, { on := 15, ground := Ground.phase }], guard := none }) (v := ?vq16) rfl (by as_aux_lemma => kernel_rfl) (by as_aux_lemma => kernel_rfl) (by as_aux_lemma => kernel_rfl) (fun _ _ _ h => h) (Or.inl ⟨by rfl, ?yq16⟩) (by assumption) ?rq16
      case yq16 => (intro w hSw; (try dsimp only at hSw); have m1 := hSw.1; have m2 := hSw.2; go_simp <;> with_reducible rfl)
      simp only [Act.put, List.setIfInBounds_toArray, List.set_cons_zero, List.set_cons_succ]
      refine wpAnyH_done (by as_aux_lemma => kernel_rfl) ?_ _
      have HE := Lib.hid (And.intro hO5 hg5)
      have hkk := HM.out.2.2.1
      rw [hkk] at HE
      clear hO5 hg5 hrun hcells hS0 l1 l2 hy0 hy1
      go_wp2_with fail
      rw [hkk]
      go_roundw
      case rel =>
        refine ⟨k + 1, y2, c2, by omega, by go_num, rfl, ?_, ?_⟩
        · rw [HM.out.1]; exact HE.out.1
        · exact world_kept (HOD.out.1.2.alloc _) HE.out.2 (balloc HOD2.out _) (Nat.le_refl _) (Nat.le_refl _)
      case measure => simp [intOf]; omega
    · obtain rfl : k = l.length := by omega
      have HO := Lib.hid (And.intro hown hB)
      clear hown hB hmk
      go_wp2_with fail
      go_ret
      refine ⟨_, rfl, ?_, HO.out.2⟩
      have h := HO.out.1
      rwa [List.take_of_length_le (by rw [List.length_map]; omega)] at h
end Go.Proofs.Ytkhdjlahfbmkoaa
