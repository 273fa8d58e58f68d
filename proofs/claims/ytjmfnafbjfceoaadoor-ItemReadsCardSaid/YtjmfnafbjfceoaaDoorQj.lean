/- Texts laid into one: Qj. -/
import Derived.Test.YtjmfnafbjfceoaaDoorQh
import Derived.Test.YtjmfnafbjfceoaaDoorYh
/- item: the reference's bytes of an item of bytes. -/
namespace Go.Proofs.YtjmfnafbjfceoaaDoor
open Go.RowKit Go.Shelf
attribute [local irreducible] lb wdG byA byC heL
/-- append of an argument's bytes to an own row of bytes, as a run. -/
theorem run_appq {w : World} (base : Nat) (v : Value) (l : List Nat) (hown : Ow w base v l) (B : Nat) (u : Value) (m : List Nat) (hx : Bto B w u m) (hz : ∀ n c, u = .slice none n c → c = 0) (hn : l.length + m.length ≤ 1000000) (hb : base ≤ w.heap.size) :
    ∃ y c w', (Builtin.append_ #[22, 22] 22 #[v, u]).run Tryd.prog w = .ok (.slice y (l ++ m).length c) w' ∧ Ow w' base (.slice y (l ++ m).length c) (l ++ m) ∧ w.grownBy w' v.ownBlock := by
  obtain ⟨i0, hi, hz0, hz1, hz2⟩ := info_parts' infoU8
  have hu : Tryd.prog.underlying 22 = some (.slice 5) := by kernel_rfl
  obtain ⟨hm, y, cap, rfl, h3, h4, h5⟩ := hx
  cases y with
  | none =>
    have hm0 : m = [] := by
      refine Classical.byContradiction fun hne => ?_
      obtain ⟨b, o, e, _⟩ := h5 hne
      cases e
    subst hm0
    obtain rfl := hz _ _ rfl
    have hrun := run_append_owned_none (P := Tryd.prog) (w := w) base 22 22 5 i0 1 hu hi _ _ _ hown.2
    obtain ⟨z, c, rfl⟩ := hown.is
    have hE : l ++ ([] : List Nat) = l := by simp
    rw [hE]
    exact ⟨z, c, w, hrun, hown, World.grownBy.refl w _⟩
  | some ad =>
    obtain ⟨v', w', hrun, ho', hg, _⟩ := run_append_own (P := Tryd.prog) w base 22 22 5 i0 (.int .u8 0) 1 1 hu hi hz0 hz1 hz2 rfl (by decide) v l.length (bvs l) hown.2 ad m.length cap (bvs m) (by rw [bvs_len]; omega) (by
        intro j u hj
        rw [bvs_get] at hj
        cases hmj : m[j]? with
        | none => rw [hmj] at hj; cases hj
        | some v =>
          rw [hmj] at hj
          cases hj
          obtain ⟨b, o, e, _, _, hc⟩ := h5 (fun e => by rw [e] at hmj; simp at hmj)
          cases e
          rw [Go.WideShapes.add_plain]
          exact hc j v hmj) (bvs_one m) (by unfold maxLen; omega) (by omega) hb
    have hO : Ow w' base v' (l ++ m) := ⟨fun z hz => (List.mem_append.1 hz).elim (hown.1 z) (hm z), by rw [← bvs_app, List.length_append]; exact ho'⟩
    obtain ⟨z, c, rfl⟩ := hO.is
    exact ⟨z, c, w', hrun, hO, hg⟩
theorem wp_append_run {P : Program} {w : World} {o : Oper} {a : Act} {K : Act → World → Prop} {Q : Exit → Act → World → Prop} (s x : Operand) (t : TypeId)
    (ho : o.op = .call { callee := .builtin .append, args := #[s, x], argTypes := #[t, t] }) {v u v' : Value} {w' : World} (hs : a.eval s = v) (hx : a.eval x = u)
    (hr : (Builtin.append_ #[t, t] o.type #[v, u]).run P w = .ok v' w') (hK : K (a.put o.dst v') w') : Oper.wp P o a w K Q := by
  unfold Oper.wp
  simp [execOp, ho, resolve, invoke, builtin, hs, hx, hr, Result.andThen]
  exact hK
set_option maxRecDepth 100000 in
set_option maxHeartbeats 2000000 in
theorem rbytes_not1 (B : Nat) (x : Option Addr) (c : Nat) (l : List Nat) (y : Option Addr) (n d : Nat) (w : World) (hv : Bto B w (.slice x l.length c) l) (hz : ∀ n c', Value.slice x l.length c = .slice none n c' → c' = 0) (hl : l.length ≤ 600) (h1 : l.length ≠ 1) :
    Calls Tryd.prog 30 #[.agg #[.bool false, .slice x l.length c, .slice y n d]] w fun e w' => ∃ x m c, e = .returned (.slice x m c) ∧ Ow w' w.heap.size (.slice x m c) (heL 128 l.length ++ l) ∧ Below w.heap.size w w' := by
  have hW := balloc (Below.refl w.heap.size w) (.cells #[.bool false, .slice x l.length c, .slice y n d] 25)
  have hb := Blk.new w 25 #[.bool false, .slice x l.length c, .slice y n d]
  have hvW := hv.new hW
  have hH := Lib.hid (rhead_any 128 l.length (by omega) (by omega) ((w.alloc (.cells #[.bool false, .slice x l.length c, .slice y n d] 25)).drew))
  have g1 : ((l.length : Int) == 1) = false := by simp; omega
  have HX := Lib.hid (And.intro hW (And.intro hb hvW))
  obtain ⟨q, hq⟩ : ∃ q, l.length = q := ⟨_, rfl⟩
  have HQ := Lib.hid hq
  rw [hq] at g1 HX hH ⊢
  clear hW hb hvW hv hq
  go_enter Tryd.func30, Tryd.ntmps30
  go_wp2_with fail
  obtain ⟨W1, hW1⟩ : ∃ W1, w.alloc (.cells #[.bool false, .slice x q c, .slice y n d] 25) = W1 := ⟨_, rfl⟩
  rw [hW1] at HX hH ⊢
  clear hW1
  have k1 : ∀ w', Below W1.heap.size W1 w' → w'.cell? ⟨w.heap.size, 1, none⟩ = some (.slice x q c) := fun w' h => cell_of_row _ _ 1 _ _ _ (HX.out.2.1.keep h)
  refine wp_region_held_drew (S := fun w' => Below W1.heap.size W1 w') (by as_aux_lemma => kernel_rfl) (Below.refl _ _).drew (fun hHeld => ?_)
  simp only [List.size_toArray, List.length_cons, List.length_nil, Nat.reduceAdd, Array.replicate_succ, Array.replicate_zero, List.push_toArray, List.nil_append, List.cons_append]
  refine wpAnyH_take (i := 0) (oi := { dst := some 24, op := Op.fieldAddr 25 (Operand.tmp 1) 1, type := 0, pos := "ref.go:52", after := #[], guard := none }) (v := ?vq0) rfl (by as_aux_lemma => kernel_rfl) (by as_aux_lemma => kernel_rfl) (by as_aux_lemma => kernel_rfl) (fun _ _ _ h => h) (Or.inl ⟨by rfl, ?yq0⟩) (by assumption) ?rq0
  case yq0 => (intro w' hSw; (try dsimp only at hSw); go_simp <;> with_reducible rfl)
  simp only [Act.put, List.setIfInBounds_toArray, List.set_cons_zero, List.set_cons_succ]
  refine wpAnyH_take (i := 1) (oi := { dst := some 25, op := Op.load 22 (Operand.tmp 24), type := 22, pos := "ref.go:52", after := #[{ on := 0, ground := Ground.data }], guard := none }) (v := ?vq1) rfl (by as_aux_lemma => kernel_rfl) (by as_aux_lemma => kernel_rfl) (by as_aux_lemma => kernel_rfl) (fun _ _ _ h => h) (Or.inl ⟨by rfl, ?yq1⟩) (by assumption) ?rq1
  case yq1 => (intro w' hSw; (try dsimp only at hSw); have z := k1 _ hSw; go_simp <;> with_reducible rfl)
  simp only [Act.put, List.setIfInBounds_toArray, List.set_cons_zero, List.set_cons_succ]
  refine wpAnyH_take (i := 4) (oi := { dst := some 28, op := Op.fieldAddr 25 (Operand.tmp 1) 1, type := 0, pos := "ref.go:52", after := #[], guard := none }) (v := ?vq2) rfl (by as_aux_lemma => kernel_rfl) (by as_aux_lemma => kernel_rfl) (by as_aux_lemma => kernel_rfl) (fun _ _ _ h => h) (Or.inl ⟨by rfl, ?yq2⟩) (by assumption) ?rq2
  case yq2 => (intro w' hSw; (try dsimp only at hSw); go_simp <;> with_reducible rfl)
  simp only [Act.put, List.setIfInBounds_toArray, List.set_cons_zero, List.set_cons_succ]
  refine wpAnyH_take (i := 5) (oi := { dst := some 29, op := Op.load 22 (Operand.tmp 28), type := 22, pos := "ref.go:52", after := #[{ on := 4, ground := Ground.data }], guard := none }) (v := ?vq3) rfl (by as_aux_lemma => kernel_rfl) (by as_aux_lemma => kernel_rfl) (by as_aux_lemma => kernel_rfl) (fun _ _ _ h => h) (Or.inl ⟨by rfl, ?yq3⟩) (by assumption) ?rq3
  case yq3 => (intro w' hSw; (try dsimp only at hSw); have z := k1 _ hSw; go_simp <;> with_reducible rfl)
  simp only [Act.put, List.setIfInBounds_toArray, List.set_cons_zero, List.set_cons_succ]
  refine wpAnyH_ready (rs := [2]) (by as_aux_lemma => kernel_rfl) (by simp) ?_
  refine AllReadyH.cons (o := { dst := some 26, op := Op.call { callee := Callee.builtin Builtin.len, args := #[Operand.tmp 25], argTypes := #[22] }, type := 3, pos := "ref.go:52", after := #[{ on := 1, ground := Ground.data }], guard := none }) rfl (fun K hK => ?_) (by exact AllReadyH.nil)
  rw [if_pos (by rfl)]
  go_simp
  refine hK.out _ _ (by (try dsimp only); assumption) (fun hHeld => ?_)
  clear hK K
  simp only [List.setIfInBounds_toArray, List.set_cons_zero, List.set_cons_succ]
  refine wpAnyH_ready (rs := [3]) (by as_aux_lemma => kernel_rfl) (by simp) ?_
  refine AllReadyH.cons (o := { dst := some 27, op := Op.call { callee := Callee.value (Operand.func 52), args := #[Operand.const (Value.int IntKind.i64 128), Operand.tmp 26], argTypes := #[3, 3] }, type := 22, pos := "ref.go:52", after := #[{ on := 2, ground := Ground.data }], guard := none }) rfl (fun K hK => ?_) (by exact AllReadyH.nil)
  rw [if_pos (by rfl)]
  go_simp
  go_at_call 52
  refine hH.out.mono ?_
  rintro e wk ⟨x2, m2, c2, rfl, hO, hk⟩
  have hSk : Below W1.heap.size W1 wk := bstep hHeld hk
  refine hK.out _ _ (by (try dsimp only); assumption) (fun hHeld => ?_)
  clear hK K
  simp only [List.setIfInBounds_toArray, List.set_cons_zero, List.set_cons_succ]
  refine wpAnyH_ready (rs := [6]) (by as_aux_lemma => kernel_rfl) (by simp) ?_
  refine AllReadyH.cons (o := { dst := some 30, op := Op.call { callee := Callee.builtin Builtin.append, args := #[Operand.tmp 27, Operand.tmp 29], argTypes := #[22, 22] }, type := 22, pos := "ref.go:52", after := #[{ on := 3, ground := Ground.data }, { on := 5, ground := Ground.data }, { on := 3, ground := Ground.chain }], guard := none }) rfl (fun K hK => ?_) (by exact AllReadyH.nil)
  rw [if_pos (by rfl)]
  have hnn : (heL 128 q).length + l.length ≤ 1000000 := by have := heL_len 128 q (by have := HQ.out; omega); have := HQ.out; omega
  obtain ⟨y3, c3, w3, hrun, hO3, hg3⟩ := run_appq (w := wk) W1.drew.heap.size (.slice x2 m2 c2) _ hO B (.slice x q c) l (HX.out.2.2.new hSk) (by rw [HQ.out] at hz; exact hz) hnn hk.size
  refine wp_append_run (.tmp 27) (.tmp 29) 22 rfl (v := .slice x2 m2 c2) (u := .slice x q c) rfl rfl hrun ?_
  have hs1 := HX.out.2.1.lt
  have hs2 := hk.size
  have hdz : W1.drew.heap.size = W1.heap.size := rfl
  have hS3 : Below W1.heap.size W1 w3 := hSk.grown hg3 hSk.size (fun k e => by have := (hO.2.lt k e).1; omega)
  have HF := Lib.hid (And.intro (hO3.mono (show w.heap.size ≤ W1.drew.heap.size by omega)) (bstep HX.out.1 hS3))
  have hlq : ∃ z, (heL 128 q ++ l).length = z := ⟨_, rfl⟩
  obtain ⟨z, hlq⟩ := hlq
  rw [hlq] at HF ⊢
  clear hlq hrun hO3 hg3 hO hk hSk HX
  refine hK.out _ _ hS3 (fun hHeld => ?_)
  clear hK K
  simp only [List.setIfInBounds_toArray, List.set_cons_zero, List.set_cons_succ]
  refine wpAnyH_take (i := 7) (oi := { dst := some 2, op := Op.assign (Operand.tmp 30), type := 22, pos := "ref.go:52", after := #[{ on := 6, ground := Ground.data }, { on := 6, ground := Ground.chain }, { on := 0, ground := Ground.phase }, { on := 1, ground := Ground.phase }, { on := 2, ground := Ground.phase }, { on := 3, ground := Ground.phase }, { on := 4, ground := Ground.phase }, { on := 5, ground := Ground.phase }, { on := 6, ground := Ground.phase }], guard := none }) (v := ?vq7) rfl (by as_aux_lemma => kernel_rfl) (by as_aux_lemma => kernel_rfl) (by as_aux_lemma => kernel_rfl) (fun _ _ _ h => h) (Or.inl ⟨by rfl, ?yq7⟩) (by assumption) ?rq7
  case yq7 => (intro w' hSw; (try dsimp only at hSw); go_simp <;> with_reducible rfl)
  simp only [Act.put, List.setIfInBounds_toArray, List.set_cons_zero, List.set_cons_succ]
  refine wpAnyH_done (by as_aux_lemma => kernel_rfl) ?_ _
  simp only [Exit.then]
  go_wp2_with fail
  go_ret
  exact ⟨_, _, _, rfl, HF.out⟩
set_option maxRecDepth 100000 in
set_option maxHeartbeats 2000000 in
theorem rbytes_1 (u : Nat) (hu : 128 ≤ u) (B : Nat) (x : Option Addr) (c : Nat) (l : List Nat) (y : Option Addr) (n d : Nat) (w : World) (hv : Bto B w (.slice x l.length c) l) (hz : ∀ n c', Value.slice x l.length c = .slice none n c' → c' = 0) (hl : l.length ≤ 600) (h1 : l = [u]) :
    Calls Tryd.prog 30 #[.agg #[.bool false, .slice x l.length c, .slice y n d]] w fun e w' => ∃ x m c, e = .returned (.slice x m c) ∧ Ow w' w.heap.size (.slice x m c) (heL 128 l.length ++ l) ∧ Below w.heap.size w w' := by
  obtain ⟨bb, o, rfl, hbl, hbx, hc⟩ : ∃ bb o, x = some ⟨bb, o, none⟩ ∧ bb < B ∧ bb < w.heap.size ∧ ∀ k u, l[k]? = some u → w.cell? ⟨bb, o + k, none⟩ = some (.int .u8 (u : Nat)) := by
    obtain ⟨_, x', c', he, _, _, hx⟩ := id hv
    cases he
    exact hx (by rw [h1]; simp)
  have hW := balloc (Below.refl w.heap.size w) (.cells #[.bool false, .slice (some ⟨bb, o, none⟩) l.length c, .slice y n d] 25)
  have hb := Blk.new w 25 #[.bool false, .slice (some ⟨bb, o, none⟩) l.length c, .slice y n d]
  have hvW := hv.new hW
  have hH := Lib.hid (rhead_any 128 l.length (by omega) (by omega) ((w.alloc (.cells #[.bool false, .slice (some ⟨bb, o, none⟩) l.length c, .slice y n d] 25)).drew))
  have k0 := (hW.cell (p := ⟨bb, o, none⟩) hbx).trans (by have := hc 0 u (by rw [h1]; rfl); simpa using this)
  have g0 : ¬ (u : Int) < 128 := by omega
  have g1 : ((l.length : Int) == 1) = true := by rw [h1]; rfl
  have g2 : (0 : Int) < (l.length : Int) := by rw [h1]; simp
  have HX := Lib.hid (And.intro hW (And.intro hb hvW))
  obtain ⟨q, hq⟩ : ∃ q, l.length = q := ⟨_, rfl⟩
  have HQ := Lib.hid hq
  rw [hq] at g1 g2 k0 HX hH ⊢
  clear hW hb hvW hv hq hbl hbx hc h1
  go_enter Tryd.func30, Tryd.ntmps30
  go_wp2_with fail
  obtain ⟨W1, hW1⟩ : ∃ W1, w.alloc (.cells #[.bool false, .slice (some ⟨bb, o, none⟩) q c, .slice y n d] 25) = W1 := ⟨_, rfl⟩
  rw [hW1] at HX hH ⊢
  clear hW1
  have k1 : ∀ w', Below W1.heap.size W1 w' → w'.cell? ⟨w.heap.size, 1, none⟩ = some (.slice (some ⟨bb, o, none⟩) q c) := fun w' h => cell_of_row _ _ 1 _ _ _ (HX.out.2.1.keep h)
  refine wp_region_held_drew (S := fun w' => Below W1.heap.size W1 w') (by as_aux_lemma => kernel_rfl) (Below.refl _ _).drew (fun hHeld => ?_)
  simp only [List.size_toArray, List.length_cons, List.length_nil, Nat.reduceAdd, Array.replicate_succ, Array.replicate_zero, List.push_toArray, List.nil_append, List.cons_append]
  refine wpAnyH_take (i := 0) (oi := { dst := some 24, op := Op.fieldAddr 25 (Operand.tmp 1) 1, type := 0, pos := "ref.go:52", after := #[], guard := none }) (v := ?vq0) rfl (by as_aux_lemma => kernel_rfl) (by as_aux_lemma => kernel_rfl) (by as_aux_lemma => kernel_rfl) (fun _ _ _ h => h) (Or.inl ⟨by rfl, ?yq0⟩) (by assumption) ?rq0
  case yq0 => (intro w' hSw; (try dsimp only at hSw); go_simp <;> with_reducible rfl)
  simp only [Act.put, List.setIfInBounds_toArray, List.set_cons_zero, List.set_cons_succ]
  refine wpAnyH_take (i := 1) (oi := { dst := some 25, op := Op.load 22 (Operand.tmp 24), type := 22, pos := "ref.go:52", after := #[{ on := 0, ground := Ground.data }], guard := none }) (v := ?vq1) rfl (by as_aux_lemma => kernel_rfl) (by as_aux_lemma => kernel_rfl) (by as_aux_lemma => kernel_rfl) (fun _ _ _ h => h) (Or.inl ⟨by rfl, ?yq1⟩) (by assumption) ?rq1
  case yq1 => (intro w' hSw; (try dsimp only at hSw); have z := k1 _ hSw; go_simp <;> with_reducible rfl)
  simp only [Act.put, List.setIfInBounds_toArray, List.set_cons_zero, List.set_cons_succ]
  refine wpAnyH_take (i := 4) (oi := { dst := some 28, op := Op.fieldAddr 25 (Operand.tmp 1) 1, type := 0, pos := "ref.go:52", after := #[], guard := none }) (v := ?vq2) rfl (by as_aux_lemma => kernel_rfl) (by as_aux_lemma => kernel_rfl) (by as_aux_lemma => kernel_rfl) (fun _ _ _ h => h) (Or.inl ⟨by rfl, ?yq2⟩) (by assumption) ?rq2
  case yq2 => (intro w' hSw; (try dsimp only at hSw); go_simp <;> with_reducible rfl)
  simp only [Act.put, List.setIfInBounds_toArray, List.set_cons_zero, List.set_cons_succ]
  refine wpAnyH_take (i := 5) (oi := { dst := some 29, op := Op.load 22 (Operand.tmp 28), type := 22, pos := "ref.go:52", after := #[{ on := 4, ground := Ground.data }], guard := none }) (v := ?vq3) rfl (by as_aux_lemma => kernel_rfl) (by as_aux_lemma => kernel_rfl) (by as_aux_lemma => kernel_rfl) (fun _ _ _ h => h) (Or.inl ⟨by rfl, ?yq3⟩) (by assumption) ?rq3
  case yq3 => (intro w' hSw; (try dsimp only at hSw); have z := k1 _ hSw; go_simp <;> with_reducible rfl)
  simp only [Act.put, List.setIfInBounds_toArray, List.set_cons_zero, List.set_cons_succ]
  refine wpAnyH_ready (rs := [2]) (by as_aux_lemma => kernel_rfl) (by simp) ?_
  refine AllReadyH.cons (o := { dst := some 26, op := Op.call { callee := Callee.builtin Builtin.len, args := #[Operand.tmp 25], argTypes := #[22] }, type := 3, pos := "ref.go:52", after := #[{ on := 1, ground := Ground.data }], guard := none }) rfl (fun K hK => ?_) (by exact AllReadyH.nil)
  rw [if_pos (by rfl)]
  go_simp
  refine hK.out _ _ (by (try dsimp only); assumption) (fun hHeld => ?_)
  clear hK K
  simp only [List.setIfInBounds_toArray, List.set_cons_zero, List.set_cons_succ]
  refine wpAnyH_ready (rs := [3]) (by as_aux_lemma => kernel_rfl) (by simp) ?_
  refine AllReadyH.cons (o := { dst := some 27, op := Op.call { callee := Callee.value (Operand.func 52), args := #[Operand.const (Value.int IntKind.i64 128), Operand.tmp 26], argTypes := #[3, 3] }, type := 22, pos := "ref.go:52", after := #[{ on := 2, ground := Ground.data }], guard := none }) rfl (fun K hK => ?_) (by exact AllReadyH.nil)
  rw [if_pos (by rfl)]
  go_simp
  go_at_call 52
  refine hH.out.mono ?_
  rintro e wk ⟨x2, m2, c2, rfl, hO, hk⟩
  have hSk : Below W1.heap.size W1 wk := bstep hHeld hk
  refine hK.out _ _ (by (try dsimp only); assumption) (fun hHeld => ?_)
  clear hK K
  simp only [List.setIfInBounds_toArray, List.set_cons_zero, List.set_cons_succ]
  refine wpAnyH_ready (rs := [6]) (by as_aux_lemma => kernel_rfl) (by simp) ?_
  refine AllReadyH.cons (o := { dst := some 30, op := Op.call { callee := Callee.builtin Builtin.append, args := #[Operand.tmp 27, Operand.tmp 29], argTypes := #[22, 22] }, type := 22, pos := "ref.go:52", after := #[{ on := 3, ground := Ground.data }, { on := 5, ground := Ground.data }, { on := 3, ground := Ground.chain }], guard := none }) rfl (fun K hK => ?_) (by exact AllReadyH.nil)
  rw [if_pos (by rfl)]
  have hnn : (heL 128 q).length + l.length ≤ 1000000 := by have := heL_len 128 q (by have := HQ.out; omega); have := HQ.out; omega
  obtain ⟨y3, c3, w3, hrun, hO3, hg3⟩ := run_appq (w := wk) W1.drew.heap.size (.slice x2 m2 c2) _ hO B (.slice (some ⟨bb, o, none⟩) q c) l (HX.out.2.2.new hSk) (by rw [HQ.out] at hz; exact hz) hnn hk.size
  refine wp_append_run (.tmp 27) (.tmp 29) 22 rfl (v := .slice x2 m2 c2) (u := .slice (some ⟨bb, o, none⟩) q c) rfl rfl hrun ?_
  have hs1 := HX.out.2.1.lt
  have hs2 := hk.size
  have hdz : W1.drew.heap.size = W1.heap.size := rfl
  have hS3 : Below W1.heap.size W1 w3 := hSk.grown hg3 hSk.size (fun k e => by have := (hO.2.lt k e).1; omega)
  have HF := Lib.hid (And.intro (hO3.mono (show w.heap.size ≤ W1.drew.heap.size by omega)) (bstep HX.out.1 hS3))
  have hlq : ∃ z, (heL 128 q ++ l).length = z := ⟨_, rfl⟩
  obtain ⟨z, hlq⟩ := hlq
  rw [hlq] at HF ⊢
  clear hlq hrun hO3 hg3 hO hk hSk HX
  refine hK.out _ _ hS3 (fun hHeld => ?_)
  clear hK K
  simp only [List.setIfInBounds_toArray, List.set_cons_zero, List.set_cons_succ]
  refine wpAnyH_take (i := 7) (oi := { dst := some 2, op := Op.assign (Operand.tmp 30), type := 22, pos := "ref.go:52", after := #[{ on := 6, ground := Ground.data }, { on := 6, ground := Ground.chain }, { on := 0, ground := Ground.phase }, { on := 1, ground := Ground.phase }, { on := 2, ground := Ground.phase }, { on := 3, ground := Ground.phase }, { on := 4, ground := Ground.phase }, { on := 5, ground := Ground.phase }, { on := 6, ground := Ground.phase }], guard := none }) (v := ?vq7) rfl (by as_aux_lemma => kernel_rfl) (by as_aux_lemma => kernel_rfl) (by as_aux_lemma => kernel_rfl) (fun _ _ _ h => h) (Or.inl ⟨by rfl, ?yq7⟩) (by assumption) ?rq7
  case yq7 => (intro w' hSw; (try dsimp only at hSw); go_simp <;> with_reducible rfl)
  simp only [Act.put, List.setIfInBounds_toArray, List.set_cons_zero, List.set_cons_succ]
  refine wpAnyH_done (by as_aux_lemma => kernel_rfl) ?_ _
  simp only [Exit.then]
  go_wp2_with fail
  go_ret
  exact ⟨_, _, _, rfl, HF.out⟩
/-- The reference's bytes of an item of bytes. -/
theorem rbytes_bytes (B : Nat) (x : Option Addr) (c : Nat) (l : List Nat) (y : Option Addr) (n d : Nat) (w : World) (hv : Bto B w (.slice x l.length c) l) (hz : ∀ n c', Value.slice x l.length c = .slice none n c' → c' = 0) (hl : l.length ≤ 600) :
    Calls Tryd.prog 30 #[.agg #[.bool false, .slice x l.length c, .slice y n d]] w fun e w' => ∃ x m c, e = .returned (.slice x m c) ∧ Ow w' w.heap.size (.slice x m c) (laB l) ∧ Below w.heap.size w w' := by
  by_cases h1 : l.length = 1
  · obtain ⟨u, rfl⟩ := List.length_eq_one_iff.1 h1
    by_cases hu : u < 128
    · have e : laB [u] = [u] := by unfold laB; rw [if_pos (show koL [u] = 0 by unfold koL; rw [if_pos ⟨rfl, hu⟩])]; rfl
      rw [e]
      exact rbytes_one B x c u y n d w hv hu
    · have e : laB [u] = heL 128 [u].length ++ [u] := by unfold laB; rw [if_neg (show ¬ koL [u] = 0 by unfold koL; rw [if_neg (fun h => hu (by simpa using h.2))]; omega)]
      rw [e]
      exact rbytes_1 u (by omega) B x c [u] y n d w hv hz hl rfl
  · have e : laB l = heL 128 l.length ++ l := by unfold laB; rw [if_neg (show ¬ koL l = 0 by unfold koL; rw [if_neg (fun h => h1 h.1)]; omega)]
    rw [e]
    exact rbytes_not1 B x c l y n d w hv hz hl h1
end Go.Proofs.YtjmfnafbjfceoaaDoor

/- item: the reference's bytes of a list. -/
namespace Go.Proofs.YtjmfnafbjfceoaaDoor
open Go.RowKit Go.Shelf
attribute [local irreducible] lb wdG byA byC heL
theorem Ow.cap0 {X : World} {base n c : Nat} {l : List Nat} (h : Ow X base (.slice none n c) l) : c = 0 := by
  rcases h.2.2 with ⟨e, _⟩ | ⟨g, cap, cur, e, _⟩
  · cases e; rfl
  · cases e
/-- Bytes of an argument laid behind an own row of bytes, the sum and its length by names. -/
theorem wpList_appz {w : World} {ops : Array Oper} {rest : List Oper} {o : Oper} {a : Act} {Q : Exit → Act → World → Prop} (hgd : o.guard = none) (s x : Operand)
    (ho : o.op = .call { callee := .builtin .append, args := #[s, x], argTypes := #[22, 22] })
    (base : Nat) (l : List Nat) (hown : Ow w base (a.eval s) l) (B : Nat) (m : List Nat) (v : Value) (he : a.eval x = v) (hx : Bto B w v m) (hz : ∀ n c, v = .slice none n c → c = 0) (hn : l.length + m.length ≤ 1000000) (hb : base ≤ w.heap.size) (z : List Nat) (L : Nat) (hzz : l ++ m = z) (hL : z.length = L)
    (h : ∀ y c w', Ow w' base (.slice y L c) z → w.grownBy w' (a.eval s).ownBlock → wpList Tryd.prog ops Q rest (a.put o.dst (.slice y L c)) w') : wpList Tryd.prog ops Q (o :: rest) a w := by
  subst hzz hL
  exact wpList_appq hgd s x ho base l hown B m v he hx hz hn hb h
set_option maxRecDepth 100000 in
set_option maxHeartbeats 4000000 in
theorem rbytes_list (B : Nat) (x : Option Addr) (n c : Nat) (y : Option Addr) (e : Nat) (vs : List Value) (yss : List (List Nat)) (w : World) (hN : vs.length ≤ 600) (hlen : yss.length = vs.length) (htot : toL yss ≤ 60000) (hI : Itso B w (.slice y vs.length e) vs)
    (hs : ∀ (i : Nat) v ys, vs[i]? = some v → yss[i]? = some ys → ∀ X, Below w.heap.size w X → Calls Tryd.prog 30 #[v] X fun e w' => ∃ z m c, e = .returned (.slice z m c) ∧ Ow w' X.heap.size (.slice z m c) ys ∧ Below X.heap.size X w') :
    Calls Tryd.prog 30 #[.agg #[.bool true, .slice x n c, .slice y vs.length e]] w fun e w' => ∃ z m c, e = .returned (.slice z m c) ∧ Ow w' w.heap.size (.slice z m c) (laL yss) ∧ Below w.heap.size w w' := by
  have HW := Lib.hid (balloc (Below.refl w.heap.size w) (.cells #[.bool true, .slice x n c, .slice y vs.length e] 25))
  obtain ⟨y', e', he', _, h2⟩ := hI
  cases he'
  obtain ⟨N, hNN⟩ : ∃ N, vs.length = N := ⟨_, rfl⟩
  have HI := Lib.hid (And.intro hNN (And.intro hlen (And.intro h2 (And.intro hs htot))))
  rw [hNN] at hN HW ⊢
  clear hs h2 hlen hNN htot
  go_enter Tryd.func30, Tryd.ntmps30
  go_wp2_with fail
  go_loopw [3, 4] (fun al i wr => ∃ k : Nat, i = .int .i64 (k : Int) ∧ k ≤ N ∧ (∃ z c2, al = .slice z (yss.take k).flatten.length c2 ∧ Ow wr (w.heap.size + 1) (.slice z (yss.take k).flatten.length c2) (yss.take k).flatten) ∧ Blk wr w.heap.size 25 #[.bool true, .slice x n c, .slice y N e] ∧ Below w.heap.size w wr) (fun _ i _ => N - (intOf i).toNat)
  case atStart => exact ⟨0, rfl, by omega, ⟨none, 0, rfl, Ow.nil _ _⟩, Blk.new _ _ _, HW.out⟩
  case round =>
    obtain ⟨k, rfl, hk, ⟨z, c2, rfl, hO⟩, hB0, hbl⟩ := hrel
    have cX0 := cell_of_row _ _ 0 _ _ _ hB0
    have cX1 := cell_of_row _ _ 1 _ _ _ hB0
    have cX2 := cell_of_row _ _ 2 _ _ _ hB0
    by_cases hlt : k < N
    · obtain ⟨hNN, hlen, h2, hs, htot⟩ := HI.out
      have hkI : (k : Int) < (N : Int) := by omega
      have hk0 : ¬ (k : Int) < 0 := by omega
      have hkv : k < vs.length := by omega
      have hkt : k < yss.length := by omega
      obtain ⟨v, hv⟩ : ∃ v, vs[k]? = some v := ⟨vs[k], by simp [hkv]⟩
      obtain ⟨ys, ht⟩ : ∃ ys, yss[k]? = some ys := ⟨yss[k], by simp [hkt]⟩
      obtain ⟨b1, o, rfl, hb, hbx, hc⟩ := h2 (fun e => by rw [e] at hv; simp at hv)
      obtain ⟨c1, x1, n1, d1, y1, m1, e1, hve, k0, k1, k2⟩ := hc k v hv
      have k0 := (hbl.cell (p := ⟨b1, o + k * 3, none⟩) hbx).trans k0
      have k1 := (hbl.cell (p := ⟨b1, o + k * 3 + 1, none⟩) hbx).trans k1
      have k2 := (hbl.cell (p := ⟨b1, o + k * 3 + 2, none⟩) hbx).trans k2
      have g3 : IntKind.i64.wrap ((k : Int) + 1) = (k : Int) + 1 := IntWalk.i64_in _ (by omega)
      have hcall := hs k v ys hv ht wr hbl
      rw [hve] at hcall
      have HC := Lib.hid hcall
      have hbw : b1 < wr.heap.size := Nat.lt_of_lt_of_le hbx hbl.size
      have HK := Lib.hid (And.intro hbl (And.intro ht (And.intro hB0 (And.intro hO hbw))))
      obtain ⟨al, hal⟩ : ∃ al, (yss.take k).flatten = al := ⟨_, rfl⟩
      obtain ⟨p, hp⟩ : ∃ p, al.length = p := ⟨_, rfl⟩
      have HAL := Lib.hid (And.intro hal hp)
      rw [hal, hp] at HK ⊢
      clear hB0 hO hc hv hve hbl hbx hbw hb hcall hs hlen hNN ht hkv hkt hal hp htot h2
      go_wp2_with fail
      refine HC.out.mono ?_
      rintro e2 w2 ⟨z3, m3, c3, rfl, hO3, h2⟩
      clear HC k0 k1 k2 cX0 cX1 cX2
      obtain ⟨_, _, he3⟩ := hO3.is
      cases he3
      obtain ⟨hbl, ht, hB0, hO, hbw⟩ := HK.out
      have hcap := fun n c (h : Value.slice z3 ys.length c3 = .slice none n c) => (h ▸ hO3).cap0
      have hO2 := hO.new h2
      have hb2 := hO3.bt.bto
      have hpl : p + ys.length ≤ 1000000 := by
        obtain ⟨hal, hp⟩ := HAL.out
        have hmem := List.mem_of_getElem? ht
        have htot := HI.out.2.2.2.2
        have e1 : (yss.take (k + 1)).flatten = al ++ ys := by rw [List.take_add_one, ht, ← hal]; simp
        have e2 : yss = yss.take (k + 1) ++ yss.drop (k + 1) := (List.take_append_drop _ _).symm
        unfold toL at htot
        rw [e2, List.flatten_append, e1] at htot
        simp only [List.length_append] at htot
        omega
      have hsz : w.heap.size + 1 ≤ w2.heap.size := by have := hB0.lt; have := h2.size; omega
      have H2 := Lib.hid (And.intro hO2 (And.intro hb2 (And.intro hcap (And.intro (hB0.keep h2) (And.intro (bstep hbl h2) (And.intro ht (And.intro hpl hsz)))))))
      clear hO2 hb2 hcap hbl ht hB0 hO hbw h2 hO3 HK hpl hsz
      obtain ⟨q, hq⟩ : ∃ q, ys.length = q := ⟨_, rfl⟩
      have HQ := Lib.hid hq
      rw [hq] at H2 ⊢
      clear hq
      obtain ⟨zz, hzz⟩ : ∃ zz, al ++ ys = zz := ⟨_, rfl⟩
      obtain ⟨pq, hpq⟩ : ∃ pq, zz.length = pq := ⟨_, rfl⟩
      have HZZ := Lib.hid (And.intro hzz hpq)
      clear hzz hpq
      go_wp2_with (first
        | (at_builtin; refine wpList_appz rfl _ _ rfl (w.heap.size + 1) al H2.out.1 w2.heap.size ys _ rfl (by have h := H2.out.2.1; rw [← HQ.out]; rw [← HQ.out] at h; exact h) (by have h := H2.out.2.2.1; exact h) (by have h := H2.out.2.2.2.2.2.2.1; have h2 := HAL.out.2; have h3 := HQ.out; omega) H2.out.2.2.2.2.2.2.2 zz pq HZZ.out.1 HZZ.out.2 ?_)
        | fail)
      intro y4 c4 w4 hO4 hg4
      obtain ⟨hO2, _, _, hB2, hbl2, ht, hpl, hsz⟩ := H2.out
      have hB4 := hB2.kept hg4 (fun e => by have := (hO2.2.lt w.heap.size e.symm).1; omega)
      have hb4 : Below w.heap.size w w4 := hbl2.grown hg4 hbl2.size (fun k e => by have := (hO2.2.lt k e).1; omega)
      have e1 : (yss.take (k + 1)).flatten = zz := by rw [← HZZ.out.1, List.take_add_one, ht, ← HAL.out.1]; simp
      have HE := Lib.hid (And.intro e1 (And.intro hO4 (And.intro hB4 hb4)))
      clear hO2 hB2 hbl2 ht hpl hsz hO4 hB4 hb4 e1 hg4 H2
      go_wp2_with fail
      refine ⟨⟨k + 1, by go_num, by omega, ⟨y4, c4, ?_, ?_⟩, HE.out.2.2.1, HE.out.2.2.2⟩, by simp [intOf]; omega⟩
      · rw [HE.out.1, HZZ.out.2]
      · rw [HE.out.1, HZZ.out.2]; exact HE.out.2.1
    · obtain rfl : k = N := by omega
      have hyy : yss.take k = yss := List.take_of_length_le (by have := HI.out.2.1; have := HI.out.1; omega)
      rw [hyy] at hO ⊢
      have htot : yss.flatten.length ≤ 60000 := HI.out.2.2.2.2
      have hE : laL yss = heL 192 yss.flatten.length ++ yss.flatten := rfl
      have HK := Lib.hid (And.intro hbl (And.intro hO (And.intro htot hE)))
      have hH := Lib.hid (rhead_any 192 yss.flatten.length (by omega) (by omega) wr)
      obtain ⟨p, hp⟩ : ∃ p, yss.flatten.length = p := ⟨_, rfl⟩
      rw [hp] at HK hH ⊢
      have HP := Lib.hid hp
      clear hbl hB0 hO hyy htot hE hp
      go_wp2_with fail
      refine hH.out.mono ?_
      rintro e2 w2 ⟨z3, m3, c3, rfl, hO3, h2⟩
      clear hH cX0 cX1 cX2
      obtain ⟨hbl, hO, htot, hE⟩ := HK.out
      have hcap := fun n c (h : Value.slice z p c2 = .slice none n c) => (h ▸ hO).cap0
      have hb2 := (hO.new h2).bt.bto
      have hs1 := hbl.size
      have hs2 := h2.size
      have hbw := bstep hbl h2
      have hnn : (heL 192 p).length + yss.flatten.length ≤ 1000000 := by have := heL_len 192 p (by omega); have := HP.out; omega
      have H2 := Lib.hid (And.intro hO3 (And.intro hb2 (And.intro hcap (And.intro hbw (And.intro hnn (And.intro hs2 (And.intro hs1 hE)))))))
      clear hbl hO htot hE hcap hb2 hs1 hs2 hbw hnn HK h2 hO3
      obtain ⟨zz, hzz⟩ : ∃ zz, heL 192 p ++ yss.flatten = zz := ⟨_, rfl⟩
      obtain ⟨pq, hpq⟩ : ∃ pq, zz.length = pq := ⟨_, rfl⟩
      have HZZ := Lib.hid (And.intro hzz hpq)
      clear hzz hpq
      go_wp2_with (first
        | (at_builtin; refine wpList_appz rfl _ _ rfl wr.heap.size (heL 192 p) H2.out.1 w2.heap.size yss.flatten _ rfl (by have h := H2.out.2.1; exact h) (by have h := H2.out.2.2.1; exact h) H2.out.2.2.2.2.1 H2.out.2.2.2.2.2.1 zz pq HZZ.out.1 HZZ.out.2 ?_)
        | fail)
      intro y4 c4 w4 hO4 hg4
      obtain ⟨hO3, _, _, hbw, _, hs2, hs1, hE⟩ := H2.out
      have hb4 : Below w.heap.size w w4 := hbw.grown hg4 hbw.size (fun k e => by have := (hO3.2.lt k e).1; omega)
      have hO5 : Ow w4 w.heap.size (.slice y4 pq c4) (laL yss) := by rw [hE, HZZ.out.1]; exact hO4.mono hs1
      have HE := Lib.hid (And.intro hO5 hb4)
      clear hO3 hbw hs2 hs1 hE hO4 hb4 hO5 hg4 H2
      go_wp2_with fail
      go_ret
      exact ⟨_, _, _, rfl, HE.out⟩
/-- The reference's bytes of any item that may be. -/
theorem rbytes_tree (d : Nat) : ∀ (t : It) (v : Value) (B : Nat) (w : World), ItO B w t v → smT t → rtB d t = true → (laT d t).length ≤ 60000 →
    Calls Tryd.prog 30 #[v] w fun e w' => ∃ z m c, e = .returned (.slice z m c) ∧ Ow w' w.heap.size (.slice z m c) (laT d t) ∧ Below w.heap.size w w' := by
  induction d with
  | zero => intro t v B w hv hs hr; simp [rtB] at hr
  | succ d ih =>
    intro t v B w hv hsm hr hl
    cases hv with
    | mk b l ts v1 iv vs h1 h2 hlen hs h0 =>
      cases hsm with
      | mk _ _ _ k1 k2 k3 =>
        cases b with
        | false =>
          obtain ⟨hb1, x, cap, rfl, hb2⟩ := h1
          obtain ⟨y, c, rfl, h2⟩ := h2
          exact rbytes_bytes B x cap l y vs.length c w ⟨hb1, x, cap, rfl, hb2⟩ h0 k1
        | true =>
          have hr' : (l.isEmpty && ts.all (rtB d)) = true := hr
          rw [Bool.and_eq_true] at hr'
          have hl' : (laL (ts.map (laT d))).length ≤ 60000 := hl
          have htot : toL (ts.map (laT d)) ≤ 60000 := by unfold laL at hl'; rw [List.length_append] at hl'; unfold toL; omega
          have hh := h2
          obtain ⟨y, c, rfl, _⟩ := hh
          obtain ⟨_, x, cap, rfl, _⟩ := h1
          refine rbytes_list B x l.length cap y c vs (ts.map (laT d)) w (by omega) (by rw [List.length_map, hlen]) htot h2 ?_
          intro i v ys hv hys X hX
          rw [List.getElem?_map] at hys
          cases ht : ts[i]? with
          | none => rw [ht] at hys; cases hys
          | some t =>
            rw [ht] at hys
            cases hys
            have hmem := List.mem_of_getElem? ht
            refine ih t v B X ((hs i t v ht hv).new hX) (k3 i t ht) (List.all_eq_true.1 hr'.2 t hmem) ?_
            have := toL_mem (laT d) t ts hmem
            omega

set_option maxRecDepth 100000 in
set_option maxHeartbeats 2000000 in
/-- The reference's Encode of what may be, and of what may not. -/
theorem rencode_o (t : It) (v : Value) (B : Nat) (w : World) (hB : B ≤ w.heap.size) (hv : ItO B w t v) (hsm : smT t) (hr : rtB 8 t = true) (hl : (laT 8 t).length ≤ 4096) :
    Calls Tryd.prog 11 #[v] w fun e w' => ∃ y m d, e = .returned (.tuple #[.slice y m d, .int .i64 0]) ∧ Ow w' w.heap.size (.slice y m d) (laT 8 t) ∧ Below w.heap.size w w' := by
  obtain ⟨b, x, m, c, y, n, d, rfl⟩ := hv.is
  have hA := balloc (Below.refl w.heap.size w) (.cells #[.bool b, .slice x m c, .slice y n d] 25)
  have hbx := Blk.new w 25 #[.bool b, .slice x m c, .slice y n d]
  have h := rright_o 8 (by omega) t _ B _ (Nat.le_trans hB hA.size) (hv.new hA) hsm
  rw [hr] at h
  have HM := Lib.hid h
  have HB := Lib.hid (fun X (hX : Below w.heap.size w X) => rbytes_tree 8 t _ B X (hv.new hX) hsm hr (by omega))
  have HA := Lib.hid (And.intro hA hbx)
  clear h hv hA hbx
  go_enter Tryd.func11, Tryd.ntmps11
  go_wp2_with fail
  refine HM.out.mono ?_
  rintro e w1 ⟨rfl, h1⟩
  rename_i K hK
  refine hK _ _ ?_
  clear hK K
  have hbx := HA.out.2.keep h1
  have hw := bstep HA.out.1 h1
  have k0 := cell_of_row _ _ 0 _ _ _ hbx
  have k1 := cell_of_row _ _ 1 _ _ _ hbx
  have k2 := cell_of_row _ _ 2 _ _ _ hbx
  have HBB := Lib.hid (HB.out w1 hw)
  have HW := Lib.hid hw
  clear h1 HM HB hbx hw HA
  go_wp2_with fail
  refine HBB.out.mono ?_
  rintro e w2 ⟨z, p, c2, rfl, hO, h2⟩
  obtain ⟨_, _, he⟩ := hO.is
  cases he
  have hs := HW.out.size
  have HE := Lib.hid (And.intro (hO.mono hs) (bstep HW.out h2))
  obtain ⟨q, hq⟩ : ∃ q, (laT 8 t).length = q := ⟨_, rfl⟩
  rw [hq] at HE hl ⊢
  have g1 : ¬ (4096 : Int) < (q : Int) := by omega
  clear hO h2 hq HBB HW
  go_wp2_with fail
  exact bodyPost_ret (v := .tuple #[.slice z q c2, .int .i64 0]) (by simp [results, Tryd.results11, go_sem]) rfl ⟨_, _, _, rfl, HE.out⟩
set_option maxRecDepth 100000 in
set_option maxHeartbeats 2000000 in
theorem rencode_not (t : It) (v : Value) (B : Nat) (w : World) (hB : B ≤ w.heap.size) (hv : ItO B w t v) (hsm : smT t) (hr : rtB 8 t = false) :
    Calls Tryd.prog 11 #[v] w fun e w' => e = .returned (.tuple #[.slice none 0 0, .int .i64 2]) ∧ Below w.heap.size w w' := by
  obtain ⟨b, x, m, c, y, n, d, rfl⟩ := hv.is
  have hA := balloc (Below.refl w.heap.size w) (.cells #[.bool b, .slice x m c, .slice y n d] 25)
  have hbx := Blk.new w 25 #[.bool b, .slice x m c, .slice y n d]
  have h := rright_o 8 (by omega) t _ B _ (Nat.le_trans hB hA.size) (hv.new hA) hsm
  rw [hr] at h
  have HM := Lib.hid h
  have HA := Lib.hid (And.intro hA hbx)
  clear h hv hA hbx
  go_enter Tryd.func11, Tryd.ntmps11
  go_wp2_with fail
  refine HM.out.mono ?_
  rintro e w1 ⟨rfl, h1⟩
  rename_i K hK
  refine hK _ _ ?_
  clear hK K
  have HW := Lib.hid (bstep HA.out.1 h1)
  clear h1 HM HA
  go_wp2_with fail
  exact bodyPost_ret (v := .tuple #[.slice none 0 0, .int .i64 2]) (by simp [results, Tryd.results11, go_sem]) rfl ⟨rfl, HW.out⟩
end Go.Proofs.YtjmfnafbjfceoaaDoor

