/- big: a step of what is left: one digit. -/
import Derived.Test.YtjkniebedgiclaaDoorFd
import Derived.Test.YtjkniebedgiclaaDoorFg
import Derived.Deep.RegionHeld3
namespace Go.Proofs.YtjkniebedgiclaaDoor
open Go.RowKit Go.Shelf

/-- A modulus as a value: its bytes, its digits, by how many bits they are moved up, what they lack, the room. -/
abbrev mdv (mx : Option Addr) (ml mc bf bl br n nr up : Nat) : Value := .agg #[.slice mx ml mc, .slice (some ⟨bf, 0, none⟩) n n, .int .i64 up, .slice (some ⟨bl, 0, none⟩) n n, .slice (some ⟨br, 0, none⟩) nr nr]
/-- Its cells. -/
abbrev mdc (mx : Option Addr) (ml mc bf bl br n nr up : Nat) : Array Value := #[.slice mx ml mc, .slice (some ⟨bf, 0, none⟩) n n, .int .i64 up, .slice (some ⟨bl, 0, none⟩) n n, .slice (some ⟨br, 0, none⟩) nr nr]
/-- The digits of a modulus and what they lack. -/
def Md (X : World) (bf bl n M : Nat) : Prop := ∃ F L, Dk X bf n F ∧ Dk X bl n L ∧ dv F n = M ∧ dv L n + M = B64 ^ n ∧ n ≤ 16 ∧ 0 < n ∧ 9223372036854775808 ≤ F (n - 1)
theorem Md.chg {P : Nat → Prop} {X Y : World} {bf bl n M : Nat} (h : Md X bf bl n M) (k : Chg P X Y) (hf : ¬ P bf) (hl : ¬ P bl) : Md Y bf bl n M := by
  obtain ⟨F, L, h1, h2, h3⟩ := h
  exact ⟨F, L, h1.chg k hf, h2.chg k hl, h3⟩
theorem Md.pos {X : World} {bf bl n M : Nat} (h : Md X bf bl n M) : 0 < M ∧ M ≤ B64 ^ n := by
  obtain ⟨F, L, h1, h2, h3, h4, h5, h6, h7⟩ := h
  have := dv_ge (f := F) n (n - 1) (by omega)
  have h8 : 1 * 1 ≤ F (n - 1) * B64 ^ (n - 1) := Nat.mul_le_mul (by omega) (Nat.pow_pos B64_pos)
  omega
theorem cut_to (b o m n c : Nat) (hn : n ≤ c) (w : World) : (Instr.slice 54 (.slice (some ⟨b, o, none⟩) m c) none (some (.int .i64 (n : Nat))) (some (.int .i64 (n : Nat)))).run Tryd.prog w = .ok (.slice (some ⟨b, o, none⟩) n n) w := by
  have h := run_slice_hm (P := Tryd.prog) (w := w) (t := 54) (a := some ⟨b, o, none⟩) (len := m) (cap := c) (ht := by kernel_rfl) .i64 .i64 (n : Int) (n : Int) (by omega) (by omega) (by omega)
  rw [h, show Tryd.prog.elem 54 = 72 by kernel_rfl, show (sizeOf 72).run Tryd.prog w = .ok 1 w by kernel_rfl]
  simp only [Result.andThen_ok, sliced, Int.toNat_natCast, Nat.sub_zero]
  split <;> rfl

theorem trial_ge (D F : Nat → Nat) (m M : Nat) (hD : ∀ i, i < m + 1 + 1 → D i < B64) (h0 : 0 < F m) (hM : dv F (m + 1) = M) (ht : dv (fun i => D (i + 1)) (m + 1) < M) : dv D (m + 1 + 1) / M ≤ gsN (D (m + 1)) (D m) (F m) := by
  unfold gsN
  by_cases h : F m ≤ D (m + 1)
  · rw [if_pos h]
    have h1 := top_lt D (m + 1) M (hD 0 (by omega)) ht
    have h2 : dv D (m + 1 + 1) / M < B64 := by
      rw [Nat.div_lt_iff_lt_mul (by omega)]
      exact h1
    omega
  · rw [if_neg h]
    exact guess_ge D F m (fun i hi => hD i (by omega)) h0 M hM
set_option maxRecDepth 100000 in
set_option maxHeartbeats 4000000 in
theorem step_any (mx : Option Addr) (ml mc bf bl br n nr up M b o c N : Nat) (D : Nat → Nat) (w : World) (hc : n + 1 ≤ c) (hN : o + n + 1 ≤ N) (hm : Md w bf bl n M) (hd : Dk w b N D) (ef : b ≠ bf) (el : b ≠ bl) (ht : dv (fun i => D (o + (i + 1))) n < M) :
    Calls Tryd.prog 57 #[mdv mx ml mc bf bl br n nr up, .slice (some ⟨b, o, none⟩) (n + 1) c] w fun e w' =>
      ∃ D', e = .returned (.tuple #[]) ∧ Dk w' b N D' ∧ (∀ j, j < o ∨ o + n + 1 ≤ j → D' j = D j) ∧ dv (fun i => D' (o + i)) (n + 1) = dv (fun i => D (o + i)) (n + 1) % M ∧ Chg (fun k => k = b) w w' := by
  obtain ⟨hM0, hMP⟩ := hm.pos
  obtain ⟨F, L, hF, hL, hFM, hLM, hn16, hn0, hF1⟩ := hm
  obtain ⟨m, hn⟩ : ∃ m, n = m + 1 := ⟨n - 1, by omega⟩
  rw [show n - 1 = m by omega] at hF1
  obtain ⟨n1, hn1⟩ : ∃ x, n + 1 = x := ⟨_, rfl⟩
  have hct := cut_to b o n1 n c (by omega)
  have i1 : IntKind.i64.wrap (m : Int) = (m : Int) := IntWalk.i64_in _ (by omega)
  have i2 : (n : Int) - 1 = (m : Int) := by omega
  have i3 : (0 : Int) ≤ (m : Int) := by omega
  have i4 : (m : Int) < (n : Int) := by omega
  have i5 : (0 : Int) ≤ (n : Int) := by omega
  have i6 : (n : Int) < (n1 : Int) := by omega
  have i7 : (m : Int) < (n1 : Int) := by omega
  have hbb := hd.lt
  have hbf := hF.lt
  have hbl := hL.lt
  obtain ⟨X, hX⟩ : ∃ X, w.alloc (.cells #[.slice mx ml mc, .slice (some ⟨bf, 0, none⟩) n n, .int .i64 up, .slice (some ⟨bl, 0, none⟩) n n, .slice (some ⟨br, 0, none⟩) nr nr] 56) = X := ⟨_, rfl⟩
  have hB : Blk X w.heap.size 56 (mdc mx ml mc bf bl br n nr up) := by rw [← hX]; exact Blk.new w _ _
  have hC : Chg (fun _ => False) w X := by rw [← hX]; exact (Chg.refl _ w).then_alloc _
  have hd := hd.chg hC (fun h => h)
  have hF := hF.chg hC (fun h => h)
  have hL := hL.chg hC (fun h => h)
  have c1 := hd.cell (o + n) (by omega)
  have c2 := hd.cell (o + m) (by omega)
  have c3 := hF.cell m (by omega)
  have k1 := cell_of_row X _ 1 _ _ _ hB
  have k3 := cell_of_row X _ 3 _ _ _ hB
  have qlt := gsN_lt (D (o + n)) (D (o + m)) (F m) (hd.dig _ (by omega))
  have hG := Lib.hid (guess_any (D (o + n)) (D (o + m)) (F m) hF1 (hF.dig m (by omega)) (hd.dig _ (by omega)) (hd.dig _ (by omega)))
  have hT := trial_ge (fun i => D (o + i)) F m M (fun i hi => hd.dig _ (by omega)) (by omega) (by rw [← hn]; exact hFM) (by rw [← hn]; exact ht)
  have hTT : dv (fun i => D (o + i)) n + D (o + n) * B64 ^ n = dv (fun i => D (o + i)) (n + 1) := rfl
  have hX0 := hd.dig (o + n) (by omega)
  rw [show m + 1 = n by omega] at hT
  have HX := Lib.hid hX
  have HN := Lib.hid (And.intro hn hn1)
  rw [hn1]
  have HB := Lib.hid (And.intro hd (And.intro hF (And.intro hL (And.intro hB (And.intro hC ht)))))
  have HM := Lib.hid (And.intro hM0 (And.intro hMP (And.intro hFM (And.intro hLM (And.intro hn16 hF1)))))
  have HT := Lib.hid (And.intro hT (And.intro hTT hX0))
  obtain ⟨q, hq⟩ : ∃ q, gsN (D (o + n)) (D (o + m)) (F m) = q := ⟨_, rfl⟩
  rw [hq] at hG qlt
  have HQ := Lib.hid (And.intro hq qlt)
  obtain ⟨x1, hx1⟩ : ∃ x, D (o + n) = x := ⟨_, rfl⟩
  obtain ⟨x2, hx2⟩ : ∃ x, D (o + m) = x := ⟨_, rfl⟩
  obtain ⟨x3, hx3⟩ : ∃ x, F m = x := ⟨_, rfl⟩
  rw [hx1, hx2, hx3] at hG
  rw [hx1] at c1
  rw [hx2] at c2
  rw [hx3] at c3
  have HXX := Lib.hid (And.intro hx1 (And.intro hx2 hx3))
  have HE := Lib.hid (And.intro ef (And.intro el hc))
  clear hT hTT hX0 hX hn hn1 hd hF hL hB hC hM0 hMP hFM hLM hF1 hq qlt hx1 hx2 hx3 ef el hc ht
  go_enter Tryd.func57, Tryd.ntmps57
  go_wp2_with fail
  rw [HX.out]
  go_quiet ((go_at_call 62; exact Calls.quiet_of (hG.out _)))
  go_wp2_with fail
  obtain ⟨Y, hY⟩ : ∃ Y, X.drewN nq = Y := ⟨_, rfl⟩
  rw [hY]
  obtain ⟨hd, hF, hL, hB, hC, ht⟩ := HB.out
  have hd : Dk Y.drew b N D := by rw [← hY]; exact hd
  have hF : Dk Y.drew bf n F := by rw [← hY]; exact hF
  have hL : Dk Y.drew bl n L := by rw [← hY]; exact hL
  have hB : Blk Y.drew w.heap.size 56 (mdc mx ml mc bf bl br n nr up) := by rw [← hY]; exact hB
  have hC : Chg (fun _ => False) w Y.drew := by rw [← hY]; exact (hC.drewN nq).drew
  have HAD := Lib.hid (add_any q b o n N n bl 0 n n D L HQ.out.2 (by omega) (by omega) (by omega) Y.drew hd hL (Ne.symm HE.out.2.1))
  have HS0 := Lib.hid (And.intro hd (And.intro hF (And.intro hL (And.intro hB hC))))
  have hS0 : Y.drew.cell? ⟨b, o + n, none⟩ = some (.int .u64 x1) ∧ Y.drew.cell? ⟨w.heap.size, 3, none⟩ = some (.slice (some ⟨bl, 0, none⟩) n n) := ⟨by rw [← HXX.out.1]; exact hd.cell (o + n) (by omega), cell_of_row _ _ 3 _ _ _ hB⟩
  clear c1 c2 c3 k1 k3 hd hF hL hB hC ht hY HB hct
  refine wp_region_held_drew (S := fun w' => w'.cell? ⟨b, o + n, none⟩ = some (.int .u64 x1) ∧ w'.cell? ⟨w.heap.size, 3, none⟩ = some (.slice (some ⟨bl, 0, none⟩) n n)) (by as_aux_lemma => kernel_rfl) hS0 (fun hHeld => ?_)
  simp only [List.size_toArray, List.length_cons, List.length_nil, Nat.reduceAdd, Array.replicate_succ, Array.replicate_zero, List.push_toArray, List.nil_append, List.cons_append]
  refine wpAnyH_take (i := 0) (oi := { dst := some 31, op := Op.move (Operand.tmp 1), type := 54, pos := "modulus.go:105", after := #[], guard := none }) (v := ?vq0) rfl (by as_aux_lemma => kernel_rfl) (by as_aux_lemma => kernel_rfl) (by as_aux_lemma => kernel_rfl) (fun _ _ _ h => h) (Or.inl ⟨by rfl, ?yq0⟩) (by assumption) ?rq0
  case yq0 => (intro w hSw; (try dsimp only at hSw); obtain ⟨s1, s2⟩ := hSw; go_simp <;> with_reducible rfl)
  simp only [Act.put, List.setIfInBounds_toArray, List.set_cons_zero, List.set_cons_succ]
  refine wpAnyH_take (i := 1) (oi := { dst := some 32, op := Op.move (Operand.tmp 4), type := 3, pos := "modulus.go:105", after := #[], guard := none }) (v := ?vq1) rfl (by as_aux_lemma => kernel_rfl) (by as_aux_lemma => kernel_rfl) (by as_aux_lemma => kernel_rfl) (fun _ _ _ h => h) (Or.inl ⟨by rfl, ?yq1⟩) (by assumption) ?rq1
  case yq1 => (intro w hSw; (try dsimp only at hSw); obtain ⟨s1, s2⟩ := hSw; go_simp <;> with_reducible rfl)
  simp only [Act.put, List.setIfInBounds_toArray, List.set_cons_zero, List.set_cons_succ]
  refine wpAnyH_take (i := 2) (oi := { dst := some 33, op := Op.indexAddr 54 (Operand.tmp 31) (Operand.tmp 32), type := 0, pos := "modulus.go:105", after := #[{ on := 0, ground := Ground.data }, { on := 1, ground := Ground.data }], guard := none }) (v := ?vq2) rfl (by as_aux_lemma => kernel_rfl) (by as_aux_lemma => kernel_rfl) (by as_aux_lemma => kernel_rfl) (fun _ _ _ h => h) (Or.inl ⟨by rfl, ?yq2⟩) (by assumption) ?rq2
  case yq2 => (intro w hSw; (try dsimp only at hSw); obtain ⟨s1, s2⟩ := hSw; go_simp <;> with_reducible rfl)
  simp only [Act.put, List.setIfInBounds_toArray, List.set_cons_zero, List.set_cons_succ]
  refine wpAnyH_take (i := 3) (oi := { dst := some 34, op := Op.load 72 (Operand.tmp 33), type := 72, pos := "modulus.go:105", after := #[{ on := 2, ground := Ground.data }], guard := none }) (v := ?vq3) rfl (by as_aux_lemma => kernel_rfl) (by as_aux_lemma => kernel_rfl) (by as_aux_lemma => kernel_rfl) (fun _ _ _ h => h) (Or.inl ⟨by rfl, ?yq3⟩) (by assumption) ?rq3
  case yq3 => (intro w hSw; (try dsimp only at hSw); obtain ⟨s1, s2⟩ := hSw; go_simp <;> with_reducible rfl)
  simp only [Act.put, List.setIfInBounds_toArray, List.set_cons_zero, List.set_cons_succ]
  refine wpAnyH_take (i := 4) (oi := { dst := some 35, op := Op.move (Operand.tmp 5), type := 54, pos := "modulus.go:105", after := #[], guard := none }) (v := ?vq4) rfl (by as_aux_lemma => kernel_rfl) (by as_aux_lemma => kernel_rfl) (by as_aux_lemma => kernel_rfl) (fun _ _ _ h => h) (Or.inl ⟨by rfl, ?yq4⟩) (by assumption) ?rq4
  case yq4 => (intro w hSw; (try dsimp only at hSw); obtain ⟨s1, s2⟩ := hSw; go_simp <;> with_reducible rfl)
  simp only [Act.put, List.setIfInBounds_toArray, List.set_cons_zero, List.set_cons_succ]
  refine wpAnyH_take (i := 5) (oi := { dst := some 36, op := Op.fieldAddr 56 (Operand.tmp 2) 3, type := 0, pos := "modulus.go:105", after := #[], guard := none }) (v := ?vq5) rfl (by as_aux_lemma => kernel_rfl) (by as_aux_lemma => kernel_rfl) (by as_aux_lemma => kernel_rfl) (fun _ _ _ h => h) (Or.inl ⟨by rfl, ?yq5⟩) (by assumption) ?rq5
  case yq5 => (intro w hSw; (try dsimp only at hSw); obtain ⟨s1, s2⟩ := hSw; go_simp <;> with_reducible rfl)
  simp only [Act.put, List.setIfInBounds_toArray, List.set_cons_zero, List.set_cons_succ]
  refine wpAnyH_take (i := 6) (oi := { dst := some 37, op := Op.load 54 (Operand.tmp 36), type := 54, pos := "modulus.go:105", after := #[{ on := 5, ground := Ground.data }], guard := none }) (v := ?vq6) rfl (by as_aux_lemma => kernel_rfl) (by as_aux_lemma => kernel_rfl) (by as_aux_lemma => kernel_rfl) (fun _ _ _ h => h) (Or.inl ⟨by rfl, ?yq6⟩) (by assumption) ?rq6
  case yq6 => (intro w hSw; (try dsimp only at hSw); obtain ⟨s1, s2⟩ := hSw; go_simp <;> with_reducible rfl)
  simp only [Act.put, List.setIfInBounds_toArray, List.set_cons_zero, List.set_cons_succ]
  refine wpAnyH_take (i := 7) (oi := { dst := some 38, op := Op.move (Operand.tmp 6), type := 72, pos := "modulus.go:105", after := #[], guard := none }) (v := ?vq7) rfl (by as_aux_lemma => kernel_rfl) (by as_aux_lemma => kernel_rfl) (by as_aux_lemma => kernel_rfl) (fun _ _ _ h => h) (Or.inl ⟨by rfl, ?yq7⟩) (by assumption) ?rq7
  case yq7 => (intro w hSw; (try dsimp only at hSw); obtain ⟨s1, s2⟩ := hSw; go_simp <;> with_reducible rfl)
  simp only [Act.put, List.setIfInBounds_toArray, List.set_cons_zero, List.set_cons_succ]
  refine wpAnyH_take (i := 10) (oi := { dst := some 41, op := Op.move (Operand.tmp 6), type := 72, pos := "modulus.go:105", after := #[], guard := none }) (v := ?vq8) rfl (by as_aux_lemma => kernel_rfl) (by as_aux_lemma => kernel_rfl) (by as_aux_lemma => kernel_rfl) (fun _ _ _ h => h) (Or.inl ⟨by rfl, ?yq8⟩) (by assumption) ?rq8
  case yq8 => (intro w hSw; (try dsimp only at hSw); obtain ⟨s1, s2⟩ := hSw; go_simp <;> with_reducible rfl)
  simp only [Act.put, List.setIfInBounds_toArray, List.set_cons_zero, List.set_cons_succ]
  refine wpAnyH_ready (rs := [8]) (by as_aux_lemma => kernel_rfl) (by simp) ?_
  refine AllReadyH.cons (o := { dst := some 39, op := Op.call { callee := Callee.value (Operand.func 39), args := #[Operand.tmp 35, Operand.tmp 37, Operand.tmp 38], argTypes := #[54, 54, 72] }, type := 72, pos := "modulus.go:105", after := #[{ on := 4, ground := Ground.data }, { on := 6, ground := Ground.data }, { on := 7, ground := Ground.data }], guard := none }) rfl (fun K hK => ?_) (by exact AllReadyH.nil)
  rw [if_pos (by rfl)]
  go_simp
  (go_at_call 39; refine HAD.out.mono ?_; rintro e wk ⟨cc, D1, rfl, hcl, hd1, hout, hsum, hch⟩)
  have hb1 := HS0.out.2.2.2.1.chg hch (fun e => by omega)
  have HS1 := Lib.hid (show wk.cell? ⟨b, o + n, none⟩ = some (.int .u64 x1) ∧ wk.cell? ⟨w.heap.size, 3, none⟩ = some (.slice (some ⟨bl, 0, none⟩) n n) from ⟨by rw [hd1.cell (o + n) (by omega), hout (o + n) (by omega), HXX.out.1], cell_of_row _ _ 3 _ _ _ hb1⟩)
  have e0 : dv (fun i => L (0 + i)) n = dv L n := dv_congr n fun i _ => by rw [Nat.zero_add]
  rw [e0] at hsum
  obtain ⟨hz, hO⟩ := Owe.start HM.out.1 HM.out.2.1 HM.out.2.2.2.1 HT.out.2.1 (show dv (fun i => D (o + i)) (n + 1) / M ≤ q by rw [← HQ.out.1]; exact HT.out.1) hsum (dv_lt n fun i hi => hd1.dig _ (by omega))
  rw [HXX.out.1] at hz hO
  have htop := top_start x1 cc q (by rw [← HXX.out.1]; exact HT.out.2.2) hcl HQ.out.2 hz
  have hzq : q - (x1 + cc) < B64 := by have := HQ.out.2; omega
  obtain ⟨z, hzz⟩ : ∃ z, q - (x1 + cc) = z := ⟨_, rfl⟩
  rw [hzz] at hO htop hzq
  have hx1l : x1 < B64 := by rw [← HXX.out.1]; exact HT.out.2.2
  have htq : IntKind.u64.wrap (IntKind.u64.wrap ((x1 : Int) + (cc : Int)) - (q : Int)) = (((B64 - z) % B64 : Nat) : Int) := by
    rw [← htop, addN, wrapM, IntKind.wrap_u64]
    have := HQ.out.2
    unfold B64 at *
    omega
  obtain ⟨tt, htt⟩ : ∃ t, (B64 - z) % B64 = t := ⟨_, rfl⟩
  rw [htt] at htq
  have HA1 := Lib.hid (And.intro hd1 (And.intro hout (And.intro hO (And.intro hzq (And.intro hch (And.intro hb1 htt))))))
  clear hcl hd1 hout hsum hch hb1 hz hO hzq htop hzz hx1l htt e0
  refine hK.out _ _ (by (try dsimp only); (first | exact hS0 | exact HS1.out)) (fun hHeld => ?_)
  clear hK K
  simp only [List.setIfInBounds_toArray, List.set_cons_zero, List.set_cons_succ]
  refine wpAnyH_take (i := 9) (oi := { dst := some 40, op := Op.binOp BinOp.add 72 (Operand.tmp 34) (Operand.tmp 39) 72, type := 72, pos := "modulus.go:105", after := #[{ on := 3, ground := Ground.data }, { on := 8, ground := Ground.data }], guard := none }) (v := ?vq10) rfl (by as_aux_lemma => kernel_rfl) (by as_aux_lemma => kernel_rfl) (by as_aux_lemma => kernel_rfl) (fun _ _ _ h => h) (Or.inl ⟨by rfl, ?yq10⟩) (by assumption) ?rq10
  case yq10 => (intro w hSw; (try dsimp only at hSw); obtain ⟨s1, s2⟩ := hSw; go_simp <;> with_reducible rfl)
  simp only [Act.put, List.setIfInBounds_toArray, List.set_cons_zero, List.set_cons_succ]
  refine wpAnyH_take (i := 11) (oi := { dst := some 42, op := Op.binOp BinOp.sub 72 (Operand.tmp 40) (Operand.tmp 41) 72, type := 72, pos := "modulus.go:105", after := #[{ on := 9, ground := Ground.data }, { on := 10, ground := Ground.data }], guard := none }) (v := ?vq11) rfl (by as_aux_lemma => kernel_rfl) (by as_aux_lemma => kernel_rfl) (by as_aux_lemma => kernel_rfl) (fun _ _ _ h => h) (Or.inl ⟨by rfl, ?yq11⟩) (by assumption) ?rq11
  case yq11 => (intro w hSw; (try dsimp only at hSw); obtain ⟨s1, s2⟩ := hSw; go_simp <;> with_reducible rfl)
  simp only [Act.put, List.setIfInBounds_toArray, List.set_cons_zero, List.set_cons_succ]
  refine wpAnyH_take (i := 12) (oi := { dst := some 7, op := Op.assign (Operand.tmp 42), type := 72, pos := "modulus.go:105", after := #[{ on := 11, ground := Ground.data }, { on := 8, ground := Ground.chain }, { on := 0, ground := Ground.phase }, { on := 1, ground := Ground.phase }, { on := 2, ground := Ground.phase }, { on := 3, ground := Ground.phase }, { on := 4, ground := Ground.phase }, { on := 5, ground := Ground.phase }, { on := 6, ground := Ground.phase }, { on := 7, ground := Ground.phase }, { on := 8, ground := Ground.phase }, { on := 9, ground := Ground.phase }, { on := 10, ground := Ground.phase }, { on := 11, ground := Ground.phase }], guard := none }) (v := ?vq12) rfl (by as_aux_lemma => kernel_rfl) (by as_aux_lemma => kernel_rfl) (by as_aux_lemma => kernel_rfl) (fun _ _ _ h => h) (Or.inl ⟨by rfl, ?yq12⟩) (by assumption) ?rq12
  case yq12 => (intro w hSw; (try dsimp only at hSw); obtain ⟨s1, s2⟩ := hSw; go_simp <;> with_reducible rfl)
  simp only [Act.put, List.setIfInBounds_toArray, List.set_cons_zero, List.set_cons_succ]
  refine wpAnyH_done (by as_aux_lemma => kernel_rfl) ?_ _
  obtain ⟨s1, s2⟩ := hHeld
  clear hS0
  go_wp2_with fail
  clear s1 s2 htq
  go_loopg [7] (q - dv (fun i => D (o + i)) (n + 1) / M) (fun k t wr => ∃ (z : Nat) (D2 : Nat → Nat), t = .int .u64 ((B64 - z) % B64 : Nat) ∧ z < B64 ∧ Dk wr b N D2 ∧ (∀ j, j < o ∨ o + n ≤ j → D2 j = D j) ∧ Owe (B64 ^ n) (dv (fun i => D2 (o + i)) n) k M (dv (fun i => D (o + i)) (n + 1) % M) z ∧ Chg (fun k => k = b) Y.drew wr)
  case atStart => exact ⟨z, D1, by rw [HA1.out.2.2.2.2.2.2], HA1.out.2.2.2.1, HA1.out.1, HA1.out.2.1, HA1.out.2.2.1, HA1.out.2.2.2.2.1⟩
  case round =>
    clear HA1 HS1
    obtain ⟨z, D2, rfl, hz, hd2, hout, hO, hch⟩ := hrel
    have hb2 := HS0.out.2.2.2.1.chg hch (fun e => by omega)
    have hf2 := HS0.out.2.1.chg hch (Ne.symm HE.out.1)
    by_cases h0 : z = 0
    · subst h0
      obtain ⟨hV, hk⟩ := hO.done (Nat.mod_lt _ HM.out.1)
      have c5 := hd2.cell (o + n) (by omega)
      have c6 := hd2.free (o + n)
      have HZ := Lib.hid (And.intro hV (And.intro hd2 (And.intro hout hch)))
      have t0 : (((B64 - 0) % B64 : Nat) : Int) = 0 := by unfold B64; rfl
      rw [t0]
      clear hV hk hd2 hout hO hch hb2 hf2 t0
      go_wp2_with fail
      go_end0
      obtain ⟨hV, hd2, hout, hch⟩ := HZ.out
      have hS := hd2.set (o + n) 0 B64_pos
      refine ⟨upf D2 (o + n) 0, rfl, hS, fun j hj => by rw [upf, if_neg (by omega)]; exact hout j (by omega), ?_, ((HS0.out.2.2.2.2.mono (fun _ _ h => h.elim)).trans hch (fun _ _ h => h)).set b (o + n) _ (fun _ => rfl)⟩
      have hu : upf D2 (o + n) 0 (o + n) = 0 := by unfold upf; rw [if_pos rfl]
      rw [← HN.out.2]
      show dv (fun i => upf D2 (o + n) 0 (o + i)) n + upf D2 (o + n) 0 (o + n) * B64 ^ n = _
      rw [hu, Nat.zero_mul, Nat.add_zero, ← hV]
      exact dv_congr n fun i hi => by unfold upf; rw [if_neg (by omega)]
    · have k1 := cell_of_row _ _ 1 _ _ _ hb2
      have hAD2 := Lib.hid (add_any 1 b o n N n bf 0 n n D2 F (by unfold B64; omega) (by omega) (by omega) (by omega) wr hd2 hf2 (Ne.symm HE.out.1))
      have hne := (not_congr (top_zero z hz)).2 h0
      obtain ⟨tt, htt⟩ : ∃ t, (B64 - z) % B64 = t := ⟨_, rfl⟩
      rw [htt] at hne
      have g1 : ((tt : Int) != 0) = true := by simp; omega
      rw [htt]
      have HZ := Lib.hid (And.intro htt (And.intro h0 (And.intro hz (And.intro hd2 (And.intro hout (And.intro hO (And.intro hch hb2)))))))
      clear hne htt hd2 hout hO hch hb2 hf2 h0
      go_wp2_with (first | (go_at_call 39; refine hAD2.out.mono ?_; rintro e w2 ⟨cc2, D3, rfl, hcl3, hd3, hout3, hsum3, hch3⟩; have HA3 := Lib.hid (And.intro hcl3 (And.intro hd3 (And.intro hout3 (And.intro hsum3 hch3)))); clear hcl3 hd3 hout3 hsum3 hch3) | fail)
      obtain ⟨htt, h0, hz, hd2, hout, hO, hch, hb2⟩ := HZ.out
      obtain ⟨hcl3, hd3, hout3, hsum3, hch3⟩ := HA3.out
      have e0 : dv (fun i => F (0 + i)) n = M := (dv_congr n fun i _ => by rw [Nat.zero_add]).trans HM.out.2.2.1
      rw [e0] at hsum3
      obtain ⟨hk, hcz, hc1, hO3⟩ := hO.step HM.out.2.1 (by omega) (dv_lt n fun i hi => hd3.dig _ (by omega)) hsum3
      have htop := top_step z cc2 hz hcz
      rw [htt] at htop
      have e1 : IntKind.u64.wrap ((tt : Int) + (cc2 : Int)) = (((B64 - (z - cc2)) % B64 : Nat) : Int) := by rw [addN, wrapM, ← htop]; rfl
      go_roundg (gk - 1)
      case measure => omega
      case rel => exact ⟨z - cc2, D3, by rw [e1], by omega, hd3, fun j hj => by rw [hout3 j (by omega)]; exact hout j hj, hO3, hch.trans hch3 (fun _ _ h => h)⟩
end Go.Proofs.YtjkniebedgiclaaDoor
