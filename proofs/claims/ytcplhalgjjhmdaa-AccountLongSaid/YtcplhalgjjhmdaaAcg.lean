/- account: Put, Get, Dead, Drop, Slots. -/
import Derived.Test.YtcplhalgjjhmdaaAcf
namespace Go.Proofs.Ytcplhalgjjhmdaa
open Go.RowKit Go.Shelf Go.ChangeMaps Go.MapKept

/-- What cannot panic need not say what follows a panic. -/
def noPanicG (Q : Exit → Act → World → Prop) : Exit → Act → World → Prop
  | .panic _, _, _ => False
  | e, a, w => Q e a w
theorem wp_noPanicG {P : Program} {c : Code} {Q : Exit → Act → World → Prop} {a : Act} {w : World} (h : c.wp P (noPanicG Q) a w) : c.wp P Q a w :=
  wp_mono h fun e a w hq => by cases e <;> first | exact hq | exact hq.elim
theorem yieldsIf_load_A {P : Program} {ops : Array Oper} {S : World → Prop} {op : Oper} {a : Act} (hw : Region.wanted op (yielded ops a.tmps) = true) (ty : TypeId) (x : Operand) (ho : op.op = .load ty x)
    (b o : Nat) (hx : a.eval x = .pointer (some ⟨b, o, none⟩)) (cs : Array Value) (d : TypeDesc) (hS : ∀ w, S w → w.rangeAt b o cs.toList)
    (hu : P.underlying ty = some d) (hd : d.isRow = true) (hi : (P.info? ty).map (·.size) = some cs.size) : YieldsIf P ops S op (.agg cs) a := by
  have h := yieldsIf_load_mid (P := P) (ops := ops) (S := S) hw ty x ho b o hx cs.toList d hS hu hd hi
  rwa [Array.toArray_toList] at h
/-- Accounts: their object p, their map b, what it holds. -/
def AcM (X : World) (p b : Nat) (m : List Nat → Option En) : Prop := Blk X p 67 #[.map (some b)] ∧ GMp enD X b m
theorem AcM.ne {X : World} {p b : Nat} {m : List Nat → Option En} (h : AcM X p b m) : p ≠ b := by
  obtain ⟨es, ck, hm, _⟩ := h.2
  rintro rfl
  have h1 := h.1
  unfold Blk at h1
  rw [hm] at h1
  cases h1
theorem AcM.keep {X Y : World} {p b : Nat} {m : List Nat → Option En} (h : AcM X p b m) (k : Below X.heap.size X Y) : AcM Y p b m := ⟨h.1.keep k, h.2.keep k⟩
theorem AcM.chg {X Y : World} {p b : Nat} {m m' : List Nat → Option En} (h : AcM X p b m) (k : Chg (fun i => i = b) X Y) (hm : GMp enD Y b m') : AcM Y p b m' := ⟨h.1.chg k h.ne, hm⟩
theorem fld1 (e : En) (w : World) : (Instr.field 73 (.agg (enC e)) 1).run Try.prog w = .ok (ptV e.2.2.2) w := by kernel_rfl
theorem fld0 (e : En) (w : World) : (Instr.field 73 (.agg (enC e)) 0).run Try.prog w = .ok (.agg (boC e)) w := by kernel_rfl
set_option maxRecDepth 100000 in
set_option maxHeartbeats 4000000 in
theorem aput_any (p b : Nat) (m : List Nat → Option En) (a : List Nat) (ha : Ad a) (v : Nat × Nat) (hv : okP v) (n : Nat) (hn : n < 2 ^ 64) (c : Value) (l : List Nat) (B : Nat) (w : World) (h : AcM w p b m) (hc : Bto B w c l) (hl : l.length ≤ 49152) :
    Calls Try.prog 7 #[.pointer (some ⟨p, 0, none⟩), .agg (adC a), .agg (acC v n c)] w fun e w' => e = .returned (.int .i64 0) ∧ AcM w' p b (gput m a (v, n, l, (glk zE m a).2.2.2)) ∧ Chg (fun k => k = b) w w' := by
  obtain ⟨x, cap, rfl⟩ : ∃ x cap, c = .slice x l.length cap := by obtain ⟨_, x, cap, h, _⟩ := hc; exact ⟨x, cap, h⟩
  obtain ⟨N, hN⟩ : ∃ N, l.length = N := ⟨_, rfl⟩
  rw [hN] at hc hl ⊢
  obtain ⟨X, hX⟩ : ∃ X, (w.alloc (.cells (adC a) 28)).alloc (.cells (acC v n (.slice x N cap)) 38) = X := ⟨_, rfl⟩
  have b1 : Blk X w.heap.size 28 (adC a) := by rw [← hX]; exact (Blk.new w _ _).alloc _
  have b2 : Blk X (w.heap.size + 1) 38 (acC v n (.slice x N cap)) := by rw [← hX]; exact Blk.newS w _ _ _
  have hW : Below w.heap.size w X := by rw [← hX]; exact balloc (balloc (Below.refl _ _) _) _
  have hX0 := h.keep hW
  have hle : ¬ ((49152 : Int) < (N : Int)) := by omega
  have HX := Lib.hid (And.intro hX (And.intro b1 (And.intro b2 (And.intro hW hX0))))
  have HA := Lib.hid ha
  have HC := Lib.hid (hc.new hW)
  have HN := Lib.hid (anone_not p b X hX0.1)
  have HB := Lib.hid (fun Z (hZ : Below X.heap.size X Z) => aofB_any v n (.slice x N cap) l B (glk zE m a).2.2.2 Z (HC.out.new hZ) (by omega))
  have HT := Lib.hid (fun Z (hZ : Below X.heap.size X Z) => at_any16 b m a ha Z (hX0.2.keep hZ))
  have HP := Lib.hid (fun Z (hZ : Below X.heap.size X Z) => eput_any b m a ha (v, n, l, (glk zE m a).2.2.2) ⟨hv, hn, HC.out.1, by show l.length ≤ 100000; omega⟩ Z (hX0.2.keep hZ))
  have hfl := fun Z => fld1 (glk zE m a) Z
  generalize glk zE m a = e0 at *
  have c6 : X.cell? ⟨w.heap.size + 1, 6, none⟩ = some (.slice x N cap) := cell_of_row _ _ 6 _ _ _ b2
  have HNE := Lib.hid (show w.heap.size ≠ b ∧ w.heap.size + 1 ≠ b ∧ p ≠ b from by have := h.2.lt; exact ⟨by omega, by omega, h.ne⟩)
  have q0 : ∀ w', Chg (fun k => k = b) X w' → w'.cell? ⟨p, 0, none⟩ = some (.map (some b)) := fun w' k => cell_of_row _ _ 0 _ _ _ (hX0.1.chg k HNE.out.2.2)
  have r0 : ∀ w', Chg (fun k => k = b) X w' → w'.cell? ⟨w.heap.size + 1, 0, none⟩ = some (.int .u64 (lb v.1 0)) := fun w' k => cell_of_row _ _ 0 _ _ _ (b2.chg k HNE.out.2.1)
  have r1 : ∀ w', Chg (fun k => k = b) X w' → w'.cell? ⟨w.heap.size + 1, 1, none⟩ = some (.int .u64 (lb v.1 1)) := fun w' k => cell_of_row _ _ 1 _ _ _ (b2.chg k HNE.out.2.1)
  have r2 : ∀ w', Chg (fun k => k = b) X w' → w'.cell? ⟨w.heap.size + 1, 2, none⟩ = some (.int .u64 (lb v.1 2)) := fun w' k => cell_of_row _ _ 2 _ _ _ (b2.chg k HNE.out.2.1)
  have r3 : ∀ w', Chg (fun k => k = b) X w' → w'.cell? ⟨w.heap.size + 1, 3, none⟩ = some (.int .u64 (lb v.1 3)) := fun w' k => cell_of_row _ _ 3 _ _ _ (b2.chg k HNE.out.2.1)
  have r4 : ∀ w', Chg (fun k => k = b) X w' → w'.cell? ⟨w.heap.size + 1, 4, none⟩ = some (.int .u64 (v.2 : Nat)) := fun w' k => cell_of_row _ _ 4 _ _ _ (b2.chg k HNE.out.2.1)
  have r5 : ∀ w', Chg (fun k => k = b) X w' → w'.cell? ⟨w.heap.size + 1, 5, none⟩ = some (.int .u64 (n : Nat)) := fun w' k => cell_of_row _ _ 5 _ _ _ (b2.chg k HNE.out.2.1)
  have r6 : ∀ w', Chg (fun k => k = b) X w' → w'.cell? ⟨w.heap.size + 1, 6, none⟩ = some (.slice x N cap) := fun w' k => cell_of_row _ _ 6 _ _ _ (b2.chg k HNE.out.2.1)
  have HL := Lib.hid hl
  have HNN := Lib.hid hN
  have hS0 : Below X.heap.size X X.drew := below_drew' (Below.refl _ _)
  clear hX b1 b2 hW hX0 ha hc hl hn hv h hN
  go_enter Try.func7, Try.ntmps7
  go_wp2_with fail
  rw [HX.out.1]
  refine wp_scope_jumps 0 (fun _ _ => False) (fun _ _ => 0) rfl ?first ?pass
  case pass => intro a w h; exact h.elim
  case first =>
    go_upto_region 4 with (first | (go_at_call 22; refine (HN.out).mono ?_; rintro e w1 ⟨rfl, rfl⟩) | fail)
    clear c6
    have hHd := Chg.new (M := fun k => k = b) hS0
    refine wp_noPanicG ?_
    refine wp_region_held_drew (S := fun w' => Chg (fun k => k = b) X w') (by as_aux_lemma => kernel_rfl) hHd (fun hHeld => ?_)
    simp only [List.size_toArray, List.length_cons, List.length_nil, Nat.reduceAdd, Array.replicate_succ, Array.replicate_zero, List.push_toArray, List.nil_append, List.cons_append]
    obtain ⟨wd, hwd⟩ : ∃ Z, X.drew = Z := ⟨_, rfl⟩
    rw [hwd] at hS0 hHeld ⊢
    clear hHd hwd
    refine wpAnyH_take (i := 0) (oi := { dst := some 13, op := Op.move (Operand.tmp 0), type := 23, pos := "account.go:37", after := #[], guard := none }) (v := ?vq0p) rfl (by as_aux_lemma => kernel_rfl) (by as_aux_lemma => kernel_rfl) (by as_aux_lemma => kernel_rfl) (fun _ _ _ h => h) (Or.inl ⟨by rfl, ?yq0p⟩) (by assumption) ?rq0p
    case yq0p => (intro w hSw; (try dsimp only at hSw); go_simp <;> with_reducible rfl)
    simp only [Act.put, List.setIfInBounds_toArray, List.set_cons_zero, List.set_cons_succ]
    refine wpAnyH_take (i := 1) (oi := { dst := some 14, op := Op.nilCheck (Operand.tmp 13), type := 0, pos := "account.go:37", after := #[{ on := 0, ground := Ground.data }], guard := none }) (v := ?vq1p) rfl (by as_aux_lemma => kernel_rfl) (by as_aux_lemma => kernel_rfl) (by as_aux_lemma => kernel_rfl) (fun _ _ _ h => h) (Or.inl ⟨by rfl, ?yq1p⟩) (by assumption) ?rq1p
    case yq1p => (intro w hSw; (try dsimp only at hSw); go_simp <;> with_reducible rfl)
    simp only [Act.put, List.setIfInBounds_toArray, List.set_cons_zero, List.set_cons_succ]
    refine wpAnyH_take (i := 2) (oi := { dst := some 15, op := Op.fieldAddr 67 (Operand.tmp 14) 0, type := 0, pos := "account.go:37", after := #[{ on := 1, ground := Ground.data }], guard := none }) (v := ?vq2p) rfl (by as_aux_lemma => kernel_rfl) (by as_aux_lemma => kernel_rfl) (by as_aux_lemma => kernel_rfl) (fun _ _ _ h => h) (Or.inl ⟨by rfl, ?yq2p⟩) (by assumption) ?rq2p
    case yq2p => (intro w hSw; (try dsimp only at hSw); go_simp <;> with_reducible rfl)
    simp only [Act.put, List.setIfInBounds_toArray, List.set_cons_zero, List.set_cons_succ]
    refine wpAnyH_take (i := 3) (oi := { dst := some 16, op := Op.load 65 (Operand.tmp 15), type := 65, pos := "account.go:37", after := #[{ on := 2, ground := Ground.data }], guard := none }) (v := ?vq3p) rfl (by as_aux_lemma => kernel_rfl) (by as_aux_lemma => kernel_rfl) (by as_aux_lemma => kernel_rfl) (fun _ _ _ h => h) (Or.inl ⟨by rfl, ?yq3p⟩) (by assumption) ?rq3p
    case yq3p => (intro w hSw; (try dsimp only at hSw); go_simp <;> with_reducible rfl)
    simp only [Act.put, List.setIfInBounds_toArray, List.set_cons_zero, List.set_cons_succ]
    refine wpAnyH_take (i := 4) (oi := { dst := some 17, op := Op.load 28 (Operand.tmp 4), type := 28, pos := "account.go:37", after := #[], guard := none }) (v := .agg (adC a)) rfl (by as_aux_lemma => kernel_rfl) (by as_aux_lemma => kernel_rfl) (by as_aux_lemma => kernel_rfl) (fun _ _ _ h => h) (yieldsIf_load_A (by rfl) 28 (.tmp 4) rfl (w.heap.size) (0) rfl (adC a) _ (fun w hw => by exact (HX.out.2.1.chg hw HNE.out.1).range) und_addr rfl (by rw [info_addr, adC_size HA.out])) (by assumption) ?_
    simp only [Act.put, List.setIfInBounds_toArray, List.set_cons_zero, List.set_cons_succ]
    refine wpAnyH_take (i := 5) (oi := { dst := some 18, op := Op.load 38 (Operand.tmp 5), type := 38, pos := "account.go:37", after := #[], guard := none }) (v := ?vq5p) rfl (by as_aux_lemma => kernel_rfl) (by as_aux_lemma => kernel_rfl) (by as_aux_lemma => kernel_rfl) (fun _ _ _ h => h) (Or.inl ⟨by rfl, ?yq5p⟩) (by assumption) ?rq5p
    case yq5p => (intro w hSw; (try dsimp only at hSw); go_simp <;> with_reducible rfl)
    simp only [Act.put, List.setIfInBounds_toArray, List.set_cons_zero, List.set_cons_succ]
    refine wpAnyH_take (i := 7) (oi := { dst := some 20, op := Op.move (Operand.tmp 0), type := 23, pos := "account.go:37", after := #[], guard := none }) (v := ?vq6p) rfl (by as_aux_lemma => kernel_rfl) (by as_aux_lemma => kernel_rfl) (by as_aux_lemma => kernel_rfl) (fun _ _ _ h => h) (Or.inl ⟨by rfl, ?yq6p⟩) (by assumption) ?rq6p
    case yq6p => (intro w hSw; (try dsimp only at hSw); go_simp <;> with_reducible rfl)
    simp only [Act.put, List.setIfInBounds_toArray, List.set_cons_zero, List.set_cons_succ]
    refine wpAnyH_take (i := 8) (oi := { dst := some 21, op := Op.nilCheck (Operand.tmp 20), type := 0, pos := "account.go:37", after := #[{ on := 7, ground := Ground.data }], guard := none }) (v := ?vq7p) rfl (by as_aux_lemma => kernel_rfl) (by as_aux_lemma => kernel_rfl) (by as_aux_lemma => kernel_rfl) (fun _ _ _ h => h) (Or.inl ⟨by rfl, ?yq7p⟩) (by assumption) ?rq7p
    case yq7p => (intro w hSw; (try dsimp only at hSw); go_simp <;> with_reducible rfl)
    simp only [Act.put, List.setIfInBounds_toArray, List.set_cons_zero, List.set_cons_succ]
    refine wpAnyH_take (i := 9) (oi := { dst := some 22, op := Op.fieldAddr 67 (Operand.tmp 21) 0, type := 0, pos := "account.go:37", after := #[{ on := 8, ground := Ground.data }], guard := none }) (v := ?vq8p) rfl (by as_aux_lemma => kernel_rfl) (by as_aux_lemma => kernel_rfl) (by as_aux_lemma => kernel_rfl) (fun _ _ _ h => h) (Or.inl ⟨by rfl, ?yq8p⟩) (by assumption) ?rq8p
    case yq8p => (intro w hSw; (try dsimp only at hSw); go_simp <;> with_reducible rfl)
    simp only [Act.put, List.setIfInBounds_toArray, List.set_cons_zero, List.set_cons_succ]
    refine wpAnyH_take (i := 10) (oi := { dst := some 23, op := Op.load 65 (Operand.tmp 22), type := 65, pos := "account.go:37", after := #[{ on := 9, ground := Ground.data }], guard := none }) (v := ?vq9p) rfl (by as_aux_lemma => kernel_rfl) (by as_aux_lemma => kernel_rfl) (by as_aux_lemma => kernel_rfl) (fun _ _ _ h => h) (Or.inl ⟨by rfl, ?yq9p⟩) (by assumption) ?rq9p
    case yq9p => (intro w hSw; (try dsimp only at hSw); go_simp <;> with_reducible rfl)
    simp only [Act.put, List.setIfInBounds_toArray, List.set_cons_zero, List.set_cons_succ]
    refine wpAnyH_take (i := 11) (oi := { dst := some 24, op := Op.load 28 (Operand.tmp 4), type := 28, pos := "account.go:37", after := #[], guard := none }) (v := .agg (adC a)) rfl (by as_aux_lemma => kernel_rfl) (by as_aux_lemma => kernel_rfl) (by as_aux_lemma => kernel_rfl) (fun _ _ _ h => h) (yieldsIf_load_A (by rfl) 28 (.tmp 4) rfl (w.heap.size) (0) rfl (adC a) _ (fun w hw => by exact (HX.out.2.1.chg hw HNE.out.1).range) und_addr rfl (by rw [info_addr, adC_size HA.out])) (by assumption) ?_
    simp only [Act.put, List.setIfInBounds_toArray, List.set_cons_zero, List.set_cons_succ]
    refine wpAnyH_ready (rs := [6]) (by as_aux_lemma => kernel_rfl) (by simp) ?_
    refine AllReadyH.cons (o := { dst := some 19, op := Op.call { callee := Callee.value (Operand.func 24), args := #[Operand.tmp 18], argTypes := #[38] }, type := 70, pos := "account.go:37", after := #[{ on := 5, ground := Ground.data }], guard := none }) rfl (fun K hK => ?_) (by exact AllReadyH.nil)
    rw [if_pos (by rfl)]
    go_simp
    (go_at_call 24; refine (HB.out _ hS0).mono ?_; rintro e z11 ⟨rfl, hz11⟩)
    have hSz11 : Below X.heap.size X z11 := rstep hz11 hS0
    refine hK.out _ _ (by (try dsimp only); exact Chg.new hSz11) (fun hHeld => ?_)
    clear hK K
    simp only [List.setIfInBounds_toArray, List.set_cons_zero, List.set_cons_succ]
    refine wpAnyH_ready (rs := [12]) (by as_aux_lemma => kernel_rfl) (by simp) ?_
    refine AllReadyH.cons (o := { dst := some 25, op := Op.call { callee := Callee.value (Operand.func 25), args := #[Operand.tmp 23, Operand.tmp 24], argTypes := #[65, 28] }, type := 73, pos := "account.go:37", after := #[{ on := 10, ground := Ground.data }, { on := 11, ground := Ground.data }, { on := 6, ground := Ground.chain }], guard := none }) rfl (fun K hK => ?_) (by exact AllReadyH.nil)
    rw [if_pos (by rfl)]
    go_simp
    (go_at_call 25; refine (HT.out _ hSz11).mono ?_; rintro e z12 ⟨rfl, hz12⟩)
    have hSz12 : Below X.heap.size X z12 := rstep hz12 hSz11
    refine hK.out _ _ (by (try dsimp only); exact Chg.new hSz12) (fun hHeld => ?_)
    clear hK K
    simp only [List.setIfInBounds_toArray, List.set_cons_zero, List.set_cons_succ]
    refine wpAnyH_take (i := 13) (oi := { dst := some 26, op := Op.field 73 (Operand.tmp 25) 1, type := 59, pos := "account.go:37", after := #[{ on := 12, ground := Ground.data }], guard := none }) (v := ?vq13p) rfl (by as_aux_lemma => kernel_rfl) (by as_aux_lemma => kernel_rfl) (by as_aux_lemma => kernel_rfl) (fun _ _ _ h => h) (Or.inl ⟨by rfl, ?yq13p⟩) (by assumption) ?rq13p
    case yq13p => (intro w hSw; (try dsimp only at hSw); go_simp <;> with_reducible rfl)
    simp only [Act.put, List.setIfInBounds_toArray, List.set_cons_zero, List.set_cons_succ]
    refine wpAnyH_take (i := 14) (oi := { dst := some 27, op := Op.build 73 #[(0, Operand.tmp 19), (1, Operand.tmp 26)], type := 73, pos := "account.go:37", after := #[{ on := 6, ground := Ground.data }, { on := 13, ground := Ground.data }], guard := none }) (v := ?vq14p) rfl (by as_aux_lemma => kernel_rfl) (by as_aux_lemma => kernel_rfl) (by as_aux_lemma => kernel_rfl) (fun _ _ _ h => h) (Or.inl ⟨by rfl, ?yq14p⟩) (by assumption) ?rq14p
    case yq14p => (intro w hSw; (try dsimp only at hSw); go_simp <;> with_reducible rfl)
    simp only [Act.put, List.setIfInBounds_toArray, List.set_cons_zero, List.set_cons_succ]
    refine wpAnyH_ready (rs := [15]) (by as_aux_lemma => kernel_rfl) (by simp) ?_
    refine AllReadyH.cons (o := { dst := some 28, op := Op.call { callee := Callee.value (Operand.func 23), args := #[Operand.tmp 16, Operand.tmp 17, Operand.tmp 27], argTypes := #[65, 28, 73] }, type := 0, pos := "account.go:37", after := #[{ on := 3, ground := Ground.data }, { on := 4, ground := Ground.data }, { on := 14, ground := Ground.data }, { on := 12, ground := Ground.chain }], guard := none }) rfl (fun K hK => ?_) (by exact AllReadyH.nil)
    rw [if_pos (by rfl)]
    go_simp
    (go_at_call 23; refine (HP.out _ hSz12).mono ?_; rintro e z15 ⟨⟨vv, rfl⟩, hmz15, hcz15⟩)
    have hCz15 := (Chg.new (M := fun k => k = b) hSz12).trans hcz15 (fun _ _ h => h)
    refine hK.out _ _ (by (try dsimp only); exact hCz15) (fun hHeld => ?_)
    clear hK K
    simp only [List.setIfInBounds_toArray, List.set_cons_zero, List.set_cons_succ]
    refine wpAnyH_done (by as_aux_lemma => kernel_rfl) ?_ _
    clear hHeld
    simp only [noPanicG]
    have HF := Lib.hid (And.intro hmz15 hCz15)
    clear hmz15 hCz15 hcz15
    go_wp2_with fail
    (try simp only [Exit.jump])
    go_ret
    exact ⟨rfl, (HX.out.2.2.2.2.chg HF.out.2 HF.out.1), (Chg.new HX.out.2.2.2.1).trans HF.out.2 (fun _ _ h => h)⟩
end Go.Proofs.Ytcplhalgjjhmdaa
