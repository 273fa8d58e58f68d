/- big: multiply, the walk. -/
import Derived.Test.YtjkniebedgiclaaDoorFj
namespace Go.Proofs.YtjkniebedgiclaaDoor
open Go.RowKit Go.Shelf

set_option maxRecDepth 100000 in
set_option maxHeartbeats 4000000 in
theorem multiply_any (mx : Option Addr) (ml mc bf bl br n nr up M b cD b2 cB N N2 : Nat) (A B R0 : Nat → Nat) (w : World) (hnr : n + n = nr) (hN : n ≤ N) (hN2 : n ≤ N2) (hcD : n ≤ cD) (hm : Md w bf bl n M) (hd : Dk w b N A) (hd2 : Dk w b2 N2 B) (hr : Dk w br nr R0)
    (e1 : b ≠ bf) (e2 : b ≠ bl) (e3 : br ≠ b) (e4 : br ≠ b2) (e5 : br ≠ bf) (e6 : br ≠ bl) (ha : dv A n < M) :
    Calls Tryd.prog 42 #[mdv mx ml mc bf bl br n nr up, .slice (some ⟨b, 0, none⟩) n cD, .slice (some ⟨b2, 0, none⟩) n cB] w fun e w' =>
      ∃ A2 R2, e = .returned (.tuple #[]) ∧ Dk w' b N A2 ∧ dv A2 n = dv A n * dv B n % M ∧ Dk w' br nr R2 ∧ Chg (fun k => k = b ∨ k = br) w w' := by
  have hn0 : 0 < n ∧ n ≤ 16 := by obtain ⟨F, L, _, _, _, _, h1, h2, _⟩ := hm; exact ⟨h2, h1⟩
  have hbb := hd.lt
  have hbb2 := hd2.lt
  have hbr := hr.lt
  have hmb : bf < w.heap.size ∧ bl < w.heap.size := by obtain ⟨F, L, h1, h2, _⟩ := hm; exact ⟨h1.lt, h2.lt⟩
  obtain ⟨X, hX⟩ : ∃ X, w.alloc (.cells #[.slice mx ml mc, .slice (some ⟨bf, 0, none⟩) n n, .int .i64 up, .slice (some ⟨bl, 0, none⟩) n n, .slice (some ⟨br, 0, none⟩) nr nr] 56) = X := ⟨_, rfl⟩
  have hB : Blk X w.heap.size 56 (mdc mx ml mc bf bl br n nr up) := by rw [← hX]; exact Blk.new w _ _
  have hC : Chg (fun _ => False) w X := by rw [← hX]; exact (Chg.refl _ w).then_alloc _
  have hd := hd.chg hC (fun h => h)
  have hd2 := hd2.chg hC (fun h => h)
  have hr := hr.chg hC (fun h => h)
  have hm := hm.chg hC (fun h => h) (fun h => h)
  have hcl := fun ty => clear_run br nr nr R0 (by omega) X hr ty
  have k4 := cell_of_row _ _ 4 _ _ _ hB
  obtain ⟨Y, hY⟩ : ∃ Y, X.setCells br 0 (List.replicate nr (.int .u64 0)) = Y := ⟨_, rfl⟩
  have hXY : Chg (fun k => k = br) X Y := by rw [← hY]; exact Chg.sets (M := fun k => k = br) (fun _ => rfl) _ 0 X (Chg.refl _ X)
  have hrY : Dk Y br nr (fun _ => 0) := by rw [← hY]; exact clear_dk br nr R0 X hr
  have hBY := hB.chg hXY (fun e => by omega)
  have hdY := hd.chg hXY (Ne.symm e3)
  have hd2Y := hd2.chg hXY (Ne.symm e4)
  have hmY := hm.chg hXY (Ne.symm e5) (Ne.symm e6)
  have HX := Lib.hid hX
  have HY := Lib.hid hY
  have HS := Lib.hid (And.intro hrY (And.intro hBY (And.intro hdY (And.intro hd2Y (And.intro hmY ((hC.mono (N := fun k => k = b ∨ k = br) (fun _ _ h => h.elim)).trans hXY (fun _ _ h => .inr h)))))))
  have HE := Lib.hid (And.intro e1 (And.intro e2 (And.intro e3 (And.intro e4 (And.intro e5 (And.intro e6 ha))))))
  have HN := Lib.hid hnr
  clear hX hY hB hC hd hd2 hr hm hXY hrY hBY hdY hd2Y hmY e1 e2 e3 e4 e5 e6 ha hnr
  go_enter Tryd.func42, Tryd.ntmps42
  go_wp2_with fail
  rw [HX.out]
  go_wp2_with (first | simp only [hcl] | fail)
  rw [HY.out]
  clear hcl k4
  go_loopw [15] (fun t wr => ∃ (i : Nat) (R : Nat → Nat), t = .int .i64 i ∧ i ≤ n ∧ Dk wr br nr R ∧ dv R (i + n) = dv A i * dv B n ∧ (∀ j, i + n ≤ j → j < nr → R j = 0) ∧ Chg (fun k => k = br) Y wr) (fun t _ => n - (intOf t).toNat)
  case atStart => exact ⟨0, fun _ => 0, rfl, Nat.zero_le _, HS.out.1, by rw [dv_zero _ fun _ _ => rfl]; show 0 = 0 * _; rw [Nat.zero_mul], fun _ _ _ => rfl, Chg.refl _ _⟩
  case round =>
    obtain ⟨i, R, rfl, hi, hrr, hv, hz, hch⟩ := hrel
    have hb := HS.out.2.1.chg hch (fun e => by omega)
    have hd := HS.out.2.2.1.chg hch (Ne.symm HE.out.2.2.1)
    have hd2 := HS.out.2.2.2.1.chg hch (Ne.symm HE.out.2.2.2.1)
    by_cases hlt : i < n
    · have c1 := hd.cell i (by omega)
      have j0 : (i : Int) < (n : Int) := by omega
      have j1 : (0 : Int) ≤ (i : Int) := by omega
      obtain ⟨s, hs⟩ : ∃ s, i + n = s := ⟨_, rfl⟩
      have j2 : IntKind.i64.wrap ((i : Int) + (n : Int)) = (s : Int) := by rw [show (i : Int) + (n : Int) = ((s : Nat) : Int) by omega]; exact IntWalk.i64_in _ (by omega)
      have hw := cut_win br 0 nr nr i s (by omega) (by have := HN.out; omega)
      rw [Nat.zero_add, show s - i = n by omega] at hw
      have j3 : (0 : Int) ≤ (s : Int) := by omega
      have j4 : (s : Int) < (nr : Int) := by have := HN.out; omega
      have j5 : IntKind.i64.wrap ((i : Int) + 1) = ((i + 1 : Nat) : Int) := IntWalk.i64_in _ (by omega)
      have hAD := add_any (A i) br i n nr n b2 0 N2 cB R B (hd.dig i (by omega)) (by omega) (by have := HN.out; omega) (by omega) wr.drew hrr hd2 (Ne.symm HE.out.2.2.2.1)
      obtain ⟨x, hx⟩ : ∃ x, A i = x := ⟨_, rfl⟩
      rw [hx] at c1 hAD
      have HAD := Lib.hid hAD
      have k4 := cell_of_row _ _ 4 _ _ _ hb
      have HI := Lib.hid (And.intro hs hx)
      have HR := Lib.hid (And.intro hrr (And.intro hv (And.intro hz (And.intro hch hb))))
      clear hrr hv hz hch hb hd hd2 hAD hs hx
      go_wp2_with fail
      --REG
      have hS0 : wr.drew.cell? ⟨w.heap.size, 4, none⟩ = some (.slice (some ⟨br, 0, none⟩) nr nr) := k4
      refine wp_region_held_drew (S := fun w' => w'.cell? ⟨w.heap.size, 4, none⟩ = some (.slice (some ⟨br, 0, none⟩) nr nr)) (by as_aux_lemma => kernel_rfl) hS0 (fun hHeld => ?_)
      simp only [List.size_toArray, List.length_cons, List.length_nil, Nat.reduceAdd, Array.replicate_succ, Array.replicate_zero, List.push_toArray, List.nil_append, List.cons_append]
      refine wpAnyH_take (i := 0) (oi := { dst := some 20, op := Op.fieldAddr 56 (Operand.tmp 3) 4, type := 0, pos := "modulus.go:86", after := #[], guard := none }) (v := ?vq0) rfl (by as_aux_lemma => kernel_rfl) (by as_aux_lemma => kernel_rfl) (by as_aux_lemma => kernel_rfl) (fun _ _ _ h => h) (Or.inl ⟨by rfl, ?yq0⟩) (by assumption) ?rq0
      case yq0 => (intro w hSw; (try dsimp only at hSw); have s1 := hSw; go_simp <;> with_reducible rfl)
      simp only [Act.put, List.setIfInBounds_toArray, List.set_cons_zero, List.set_cons_succ]
      refine wpAnyH_take (i := 1) (oi := { dst := some 21, op := Op.load 54 (Operand.tmp 20), type := 54, pos := "modulus.go:86", after := #[{ on := 0, ground := Ground.data }], guard := none }) (v := ?vq1) rfl (by as_aux_lemma => kernel_rfl) (by as_aux_lemma => kernel_rfl) (by as_aux_lemma => kernel_rfl) (fun _ _ _ h => h) (Or.inl ⟨by rfl, ?yq1⟩) (by assumption) ?rq1
      case yq1 => (intro w hSw; (try dsimp only at hSw); have s1 := hSw; go_simp <;> with_reducible rfl)
      simp only [Act.put, List.setIfInBounds_toArray, List.set_cons_zero, List.set_cons_succ]
      refine wpAnyH_take (i := 2) (oi := { dst := some 22, op := Op.move (Operand.tmp 7), type := 3, pos := "modulus.go:86", after := #[], guard := none }) (v := ?vq2) rfl (by as_aux_lemma => kernel_rfl) (by as_aux_lemma => kernel_rfl) (by as_aux_lemma => kernel_rfl) (fun _ _ _ h => h) (Or.inl ⟨by rfl, ?yq2⟩) (by assumption) ?rq2
      case yq2 => (intro w hSw; (try dsimp only at hSw); have s1 := hSw; go_simp <;> with_reducible rfl)
      simp only [Act.put, List.setIfInBounds_toArray, List.set_cons_zero, List.set_cons_succ]
      refine wpAnyH_take (i := 3) (oi := { dst := some 23, op := Op.move (Operand.tmp 6), type := 3, pos := "modulus.go:86", after := #[], guard := none }) (v := ?vq3) rfl (by as_aux_lemma => kernel_rfl) (by as_aux_lemma => kernel_rfl) (by as_aux_lemma => kernel_rfl) (fun _ _ _ h => h) (Or.inl ⟨by rfl, ?yq3⟩) (by assumption) ?rq3
      case yq3 => (intro w hSw; (try dsimp only at hSw); have s1 := hSw; go_simp <;> with_reducible rfl)
      simp only [Act.put, List.setIfInBounds_toArray, List.set_cons_zero, List.set_cons_succ]
      refine wpAnyH_take (i := 4) (oi := { dst := some 24, op := Op.binOp BinOp.add 3 (Operand.tmp 22) (Operand.tmp 23) 3, type := 3, pos := "modulus.go:86", after := #[{ on := 2, ground := Ground.data }, { on := 3, ground := Ground.data }], guard := none }) (v := ?vq4) rfl (by as_aux_lemma => kernel_rfl) (by as_aux_lemma => kernel_rfl) (by as_aux_lemma => kernel_rfl) (fun _ _ _ h => h) (Or.inl ⟨by rfl, ?yq4⟩) (by assumption) ?rq4
      case yq4 => (intro w hSw; (try dsimp only at hSw); have s1 := hSw; go_simp <;> with_reducible rfl)
      simp only [Act.put, List.setIfInBounds_toArray, List.set_cons_zero, List.set_cons_succ]
      refine wpAnyH_take (i := 5) (oi := { dst := some 25, op := Op.fieldAddr 56 (Operand.tmp 3) 4, type := 0, pos := "modulus.go:86", after := #[], guard := none }) (v := ?vq5) rfl (by as_aux_lemma => kernel_rfl) (by as_aux_lemma => kernel_rfl) (by as_aux_lemma => kernel_rfl) (fun _ _ _ h => h) (Or.inl ⟨by rfl, ?yq5⟩) (by assumption) ?rq5
      case yq5 => (intro w hSw; (try dsimp only at hSw); have s1 := hSw; go_simp <;> with_reducible rfl)
      simp only [Act.put, List.setIfInBounds_toArray, List.set_cons_zero, List.set_cons_succ]
      refine wpAnyH_take (i := 6) (oi := { dst := some 26, op := Op.load 54 (Operand.tmp 25), type := 54, pos := "modulus.go:86", after := #[{ on := 5, ground := Ground.data }], guard := none }) (v := ?vq6) rfl (by as_aux_lemma => kernel_rfl) (by as_aux_lemma => kernel_rfl) (by as_aux_lemma => kernel_rfl) (fun _ _ _ h => h) (Or.inl ⟨by rfl, ?yq6⟩) (by assumption) ?rq6
      case yq6 => (intro w hSw; (try dsimp only at hSw); have s1 := hSw; go_simp <;> with_reducible rfl)
      simp only [Act.put, List.setIfInBounds_toArray, List.set_cons_zero, List.set_cons_succ]
      refine wpAnyH_take (i := 7) (oi := { dst := some 27, op := Op.move (Operand.tmp 7), type := 3, pos := "modulus.go:86", after := #[], guard := none }) (v := ?vq7) rfl (by as_aux_lemma => kernel_rfl) (by as_aux_lemma => kernel_rfl) (by as_aux_lemma => kernel_rfl) (fun _ _ _ h => h) (Or.inl ⟨by rfl, ?yq7⟩) (by assumption) ?rq7
      case yq7 => (intro w hSw; (try dsimp only at hSw); have s1 := hSw; go_simp <;> with_reducible rfl)
      simp only [Act.put, List.setIfInBounds_toArray, List.set_cons_zero, List.set_cons_succ]
      refine wpAnyH_take (i := 8) (oi := { dst := some 28, op := Op.move (Operand.tmp 7), type := 3, pos := "modulus.go:86", after := #[], guard := none }) (v := ?vq8) rfl (by as_aux_lemma => kernel_rfl) (by as_aux_lemma => kernel_rfl) (by as_aux_lemma => kernel_rfl) (fun _ _ _ h => h) (Or.inl ⟨by rfl, ?yq8⟩) (by assumption) ?rq8
      case yq8 => (intro w hSw; (try dsimp only at hSw); have s1 := hSw; go_simp <;> with_reducible rfl)
      simp only [Act.put, List.setIfInBounds_toArray, List.set_cons_zero, List.set_cons_succ]
      refine wpAnyH_take (i := 9) (oi := { dst := some 29, op := Op.move (Operand.tmp 6), type := 3, pos := "modulus.go:86", after := #[], guard := none }) (v := ?vq9) rfl (by as_aux_lemma => kernel_rfl) (by as_aux_lemma => kernel_rfl) (by as_aux_lemma => kernel_rfl) (fun _ _ _ h => h) (Or.inl ⟨by rfl, ?yq9⟩) (by assumption) ?rq9
      case yq9 => (intro w hSw; (try dsimp only at hSw); have s1 := hSw; go_simp <;> with_reducible rfl)
      simp only [Act.put, List.setIfInBounds_toArray, List.set_cons_zero, List.set_cons_succ]
      refine wpAnyH_take (i := 10) (oi := { dst := some 30, op := Op.binOp BinOp.add 3 (Operand.tmp 28) (Operand.tmp 29) 3, type := 3, pos := "modulus.go:86", after := #[{ on := 8, ground := Ground.data }, { on := 9, ground := Ground.data }], guard := none }) (v := ?vq10) rfl (by as_aux_lemma => kernel_rfl) (by as_aux_lemma => kernel_rfl) (by as_aux_lemma => kernel_rfl) (fun _ _ _ h => h) (Or.inl ⟨by rfl, ?yq10⟩) (by assumption) ?rq10
      case yq10 => (intro w hSw; (try dsimp only at hSw); have s1 := hSw; go_simp <;> with_reducible rfl)
      simp only [Act.put, List.setIfInBounds_toArray, List.set_cons_zero, List.set_cons_succ]
      refine wpAnyH_take (i := 11) (oi := { dst := some 31, op := Op.move (Operand.tmp 7), type := 3, pos := "modulus.go:86", after := #[], guard := none }) (v := ?vq11) rfl (by as_aux_lemma => kernel_rfl) (by as_aux_lemma => kernel_rfl) (by as_aux_lemma => kernel_rfl) (fun _ _ _ h => h) (Or.inl ⟨by rfl, ?yq11⟩) (by assumption) ?rq11
      case yq11 => (intro w hSw; (try dsimp only at hSw); have s1 := hSw; go_simp <;> with_reducible rfl)
      simp only [Act.put, List.setIfInBounds_toArray, List.set_cons_zero, List.set_cons_succ]
      refine wpAnyH_take (i := 12) (oi := { dst := some 32, op := Op.move (Operand.tmp 6), type := 3, pos := "modulus.go:86", after := #[], guard := none }) (v := ?vq12) rfl (by as_aux_lemma => kernel_rfl) (by as_aux_lemma => kernel_rfl) (by as_aux_lemma => kernel_rfl) (fun _ _ _ h => h) (Or.inl ⟨by rfl, ?yq12⟩) (by assumption) ?rq12
      case yq12 => (intro w hSw; (try dsimp only at hSw); have s1 := hSw; go_simp <;> with_reducible rfl)
      simp only [Act.put, List.setIfInBounds_toArray, List.set_cons_zero, List.set_cons_succ]
      refine wpAnyH_take (i := 13) (oi := { dst := some 33, op := Op.binOp BinOp.add 3 (Operand.tmp 31) (Operand.tmp 32) 3, type := 3, pos := "modulus.go:86", after := #[{ on := 11, ground := Ground.data }, { on := 12, ground := Ground.data }], guard := none }) (v := ?vq13) rfl (by as_aux_lemma => kernel_rfl) (by as_aux_lemma => kernel_rfl) (by as_aux_lemma => kernel_rfl) (fun _ _ _ h => h) (Or.inl ⟨by rfl, ?yq13⟩) (by assumption) ?rq13
      case yq13 => (intro w hSw; (try dsimp only at hSw); have s1 := hSw; go_simp <;> with_reducible rfl)
      simp only [Act.put, List.setIfInBounds_toArray, List.set_cons_zero, List.set_cons_succ]
      refine wpAnyH_take (i := 14) (oi := { dst := some 34, op := Op.slice 54 (Operand.tmp 26) (some (Operand.tmp 27)) (some (Operand.tmp 30)) (some (Operand.tmp 33)), type := 54, pos := "modulus.go:86", after := #[{ on := 6, ground := Ground.data }, { on := 7, ground := Ground.data }, { on := 10, ground := Ground.data }, { on := 13, ground := Ground.data }], guard := none }) (v := ?vq14) rfl (by as_aux_lemma => kernel_rfl) (by as_aux_lemma => kernel_rfl) (by as_aux_lemma => kernel_rfl) (fun _ _ _ h => h) (Or.inl ⟨by rfl, ?yq14⟩) (by assumption) ?rq14
      case yq14 => (intro w hSw; (try dsimp only at hSw); have s1 := hSw; go_simp <;> with_reducible rfl)
      simp only [Act.put, List.setIfInBounds_toArray, List.set_cons_zero, List.set_cons_succ]
      refine wpAnyH_take (i := 15) (oi := { dst := some 35, op := Op.move (Operand.tmp 2), type := 54, pos := "modulus.go:86", after := #[], guard := none }) (v := ?vq15) rfl (by as_aux_lemma => kernel_rfl) (by as_aux_lemma => kernel_rfl) (by as_aux_lemma => kernel_rfl) (fun _ _ _ h => h) (Or.inl ⟨by rfl, ?yq15⟩) (by assumption) ?rq15
      case yq15 => (intro w hSw; (try dsimp only at hSw); have s1 := hSw; go_simp <;> with_reducible rfl)
      simp only [Act.put, List.setIfInBounds_toArray, List.set_cons_zero, List.set_cons_succ]
      refine wpAnyH_take (i := 16) (oi := { dst := some 36, op := Op.move (Operand.tmp 8), type := 72, pos := "modulus.go:86", after := #[], guard := none }) (v := ?vq16) rfl (by as_aux_lemma => kernel_rfl) (by as_aux_lemma => kernel_rfl) (by as_aux_lemma => kernel_rfl) (fun _ _ _ h => h) (Or.inl ⟨by rfl, ?yq16⟩) (by assumption) ?rq16
      case yq16 => (intro w hSw; (try dsimp only at hSw); have s1 := hSw; go_simp <;> with_reducible rfl)
      simp only [Act.put, List.setIfInBounds_toArray, List.set_cons_zero, List.set_cons_succ]
      refine wpAnyH_ready (rs := [17]) (by as_aux_lemma => kernel_rfl) (by simp) ?_
      refine AllReadyH.cons (o := { dst := some 37, op := Op.call { callee := Callee.value (Operand.func 39), args := #[Operand.tmp 34, Operand.tmp 35, Operand.tmp 36], argTypes := #[54, 54, 72] }, type := 72, pos := "modulus.go:86", after := #[{ on := 14, ground := Ground.data }, { on := 15, ground := Ground.data }, { on := 16, ground := Ground.data }], guard := none }) rfl (fun K hK => ?_) (by exact AllReadyH.nil)
      rw [if_pos (by rfl)]
      go_simp
      (go_at_call 39; refine HAD.out.mono ?_; rintro e wk ⟨cc, E, rfl, hcl, hd3, hout, hsum, hch3⟩)
      have hb1 := (show Blk wr.drew w.heap.size _ _ from HR.out.2.2.2.2).chg hch3 (fun e => by omega)
      have hG := grown_set' (grown_refl wk br) s (.int .u64 (cc : Nat))
      have hb2 := hb1.kept hG (fun e => by injection e with e; omega)
      have c5 := hd3.cell s (by omega)
      have c6 := hd3.free s
      have HS1 := Lib.hid (And.intro (cell_of_row _ _ 4 _ _ _ hb1) (cell_of_row _ _ 4 _ _ _ hb2))
      have HA1 := Lib.hid (And.intro hcl (And.intro hd3 (And.intro hout (And.intro hsum hch3))))
      clear hcl hd3 hout hsum hch3 hb1 hb2 hG
      refine hK.out _ _ (by (try dsimp only); (first | exact hS0 | exact HS1.out.1 | exact HS1.out.2)) (fun hHeld => ?_)
      clear hK K
      simp only [List.setIfInBounds_toArray, List.set_cons_zero, List.set_cons_succ]
      refine wpAnyH_take (i := 18) (oi := { dst := some 38, op := Op.indexAddr 54 (Operand.tmp 21) (Operand.tmp 24), type := 0, pos := "modulus.go:86", after := #[{ on := 1, ground := Ground.data }, { on := 4, ground := Ground.data }, { on := 0, ground := Ground.phase }, { on := 1, ground := Ground.phase }, { on := 2, ground := Ground.phase }, { on := 3, ground := Ground.phase }, { on := 4, ground := Ground.phase }, { on := 5, ground := Ground.phase }, { on := 6, ground := Ground.phase }, { on := 7, ground := Ground.phase }, { on := 8, ground := Ground.phase }, { on := 9, ground := Ground.phase }, { on := 10, ground := Ground.phase }, { on := 11, ground := Ground.phase }, { on := 12, ground := Ground.phase }, { on := 13, ground := Ground.phase }, { on := 14, ground := Ground.phase }, { on := 15, ground := Ground.phase }, { on := 16, ground := Ground.phase }, { on := 17, ground := Ground.phase }], guard := none }) (v := ?vq18) rfl (by as_aux_lemma => kernel_rfl) (by as_aux_lemma => kernel_rfl) (by as_aux_lemma => kernel_rfl) (fun _ _ _ h => h) (Or.inl ⟨by rfl, ?yq18⟩) (by assumption) ?rq18
      case yq18 => (intro w hSw; (try dsimp only at hSw); have s1 := hSw; go_simp <;> with_reducible rfl)
      simp only [Act.put, List.setIfInBounds_toArray, List.set_cons_zero, List.set_cons_succ]
      refine wpAnyH_ready (rs := [19]) (by as_aux_lemma => kernel_rfl) (by simp) ?_
      refine AllReadyH.cons (o := { dst := none, op := Op.store 72 (Operand.tmp 38) (Operand.tmp 37), type := 0, pos := "modulus.go:86", after := #[{ on := 18, ground := Ground.data }, { on := 17, ground := Ground.data }, { on := 17, ground := Ground.chain }, { on := 0, ground := Ground.phase }, { on := 1, ground := Ground.phase }, { on := 2, ground := Ground.phase }, { on := 3, ground := Ground.phase }, { on := 4, ground := Ground.phase }, { on := 5, ground := Ground.phase }, { on := 6, ground := Ground.phase }, { on := 7, ground := Ground.phase }, { on := 8, ground := Ground.phase }, { on := 9, ground := Ground.phase }, { on := 10, ground := Ground.phase }, { on := 11, ground := Ground.phase }, { on := 12, ground := Ground.phase }, { on := 13, ground := Ground.phase }, { on := 14, ground := Ground.phase }, { on := 15, ground := Ground.phase }, { on := 16, ground := Ground.phase }, { on := 17, ground := Ground.phase }], guard := none }) rfl (fun K hK => ?_) (by exact AllReadyH.nil)
      rw [if_pos (by rfl)]
      go_simp
      refine hK.out _ _ (by (try dsimp only); (first | exact hS0 | exact HS1.out.1 | exact HS1.out.2)) (fun hHeld => ?_)
      clear hK K
      simp only [List.setIfInBounds_toArray, List.set_cons_zero, List.set_cons_succ]
      refine wpAnyH_done (by as_aux_lemma => kernel_rfl) ?_ _
      clear hS0
      go_wp2_with fail
      obtain ⟨hcl, hd3, hout, hsum, hch3⟩ := HA1.out
      obtain ⟨hrr, hv, hz, hch, hb⟩ := HR.out
      have hs := HI.out.1
      have e0 : dv (fun k => B (0 + k)) n = dv B n := dv_congr n fun i _ => by rw [Nat.zero_add]
      rw [e0, ← HI.out.2] at hsum
      have h1 := times_step A B R (upf E s cc) i n cc (fun j hj => by unfold upf; rw [if_neg (by omega)]; exact hout j (by omega))
        (by rw [dv_congr (f := fun k => upf E s cc (i + k)) (g := fun k => E (i + k)) n fun k hk => by unfold upf; rw [if_neg (by omega)]]; exact hsum) hv (by unfold upf; rw [if_pos hs])
      exact ⟨⟨i + 1, upf E s cc, by go_num, by omega, hd3.set s cc hcl, h1, fun j h1 h2 => by unfold upf; rw [if_neg (by omega), hout j (by omega)]; exact hz j (by omega) h2, (hch.trans (show Chg (fun k => k = br) wr wk from hch3) (fun _ _ h => h)).set br s _ (fun _ => rfl)⟩, by simp [intOf]; omega⟩
    · obtain rfl : i = n := by omega
      have hm := HS.out.2.2.2.2.1.chg hch (Ne.symm HE.out.2.2.2.2.1) (Ne.symm HE.out.2.2.2.2.2.1)
      have hnr := HN.out
      have hph := prod_high R i (dv A i) (dv B i) M (fun j hj => hrr.dig j (by omega)) hv HE.out.2.2.2.2.2.2 (dv_lt i fun j hj => hd2.dig j (by omega))
      have hRST := rest_any mx ml mc bf bl br i nr up M br i nr nr R wr (by omega) (by omega) (by omega) hm hrr HE.out.2.2.2.2.1 HE.out.2.2.2.2.2.1 hph
      rw [hnr] at hRST hv
      have HRST := Lib.hid hRST
      have k0 := cell_of_row _ _ 0 _ _ _ hb
      have k1 := cell_of_row _ _ 1 _ _ _ hb
      have k2 := cell_of_row _ _ 2 _ _ _ hb
      have k3 := cell_of_row _ _ 3 _ _ _ hb
      have k4 := cell_of_row _ _ 4 _ _ _ hb
      have HR := Lib.hid (And.intro hd (And.intro hv hch))
      clear hrr hv hz hch hb hd hd2 hRST hm hph hnr
      go_wp2_with (first | (go_at_call 56; refine HRST.out.mono ?_; rintro e w2 ⟨R2, rfl, hd3, hv3, hch3⟩; have hd4 := HR.out.1.chg hch3 (Ne.symm HE.out.2.2.1); have hcp := fun ty => copy_run b i cD br i i N A R2 hN rfl w2 hd4 (hd3.less (by have := HN.out; omega)) ty; have HA3 := Lib.hid (And.intro hd3 (And.intro hv3 (And.intro hch3 hd4))); clear hd3 hv3 hch3 hd4) | fail)
      go_end0
      obtain ⟨hd3, hv3, hch3, hd4⟩ := HA3.out
      have hcd := copy_dk b i N A R2 w2 hd4 (fun j hj => hd3.dig j (by have := HN.out; omega))
      refine ⟨_, R2, rfl, hcd, ?_, hd3.chg (M := fun k => k = b) (Chg.sets (M := fun k => k = b) (fun _ => rfl) _ 0 w2 (Chg.refl _ w2)) HE.out.2.2.1, ?_⟩
      · rw [dv_congr (g := R2) i fun j hj => by rw [if_pos hj], hv3, HR.out.2.1]
      · exact Chg.sets (fun _ => .inl rfl) _ 0 w2 ((HS.out.2.2.2.2.2.trans HR.out.2.2 (fun _ _ h => .inr h)).trans hch3 (fun _ _ h => .inr h))
end Go.Proofs.YtjkniebedgiclaaDoor
