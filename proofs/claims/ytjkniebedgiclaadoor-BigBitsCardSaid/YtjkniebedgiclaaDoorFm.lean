/- big: down: what is left by the modulus itself. -/
import Derived.Test.YtjkniebedgiclaaDoorFl
namespace Go.Proofs.YtjkniebedgiclaaDoor
open Go.RowKit Go.Shelf

set_option maxRecDepth 100000 in
set_option maxHeartbeats 4000000 in
theorem down_any (mx : Option Addr) (ml mc bf bl br n nr up M M0 b c N : Nat) (D : Nat → Nat) (w : World) (hN : n ≤ N) (hup : up ≤ 63) (hM : M0 * 2 ^ up = M) (hm : Md w bf bl n M) (hd : Dk w b N D) (ht : dv D n < M) :
    Calls Tryd.prog 44 #[mdv mx ml mc bf bl br n nr up, .slice (some ⟨b, 0, none⟩) n c] w fun e w' =>
      ∃ b' E, e = .returned (.slice (some ⟨b', 0, none⟩) n n) ∧ Dk w' b' n E ∧ dv E n = dv D n % M0 ∧ Below w.heap.size w w' := by
  have hn0 : 0 < n ∧ n ≤ 16 := by obtain ⟨F, L, _, _, _, _, h1, h2, _⟩ := hm; exact ⟨h2, h1⟩
  have hbb := hd.lt
  have hmb : bf < w.heap.size ∧ bl < w.heap.size := by obtain ⟨F, L, h1, h2, _⟩ := hm; exact ⟨h1.lt, h2.lt⟩
  obtain ⟨n1, hn1⟩ : ∃ x, n + 1 = x := ⟨_, rfl⟩
  obtain ⟨X, hX⟩ : ∃ X, (w.alloc (.cells #[.slice mx ml mc, .slice (some ⟨bf, 0, none⟩) n n, .int .i64 up, .slice (some ⟨bl, 0, none⟩) n n, .slice (some ⟨br, 0, none⟩) nr nr] 56)).alloc (.cells (Array.replicate n1 (.int .u64 0)) 72) = X := ⟨_, rfl⟩
  have hB : Blk X w.heap.size 56 (mdc mx ml mc bf bl br n nr up) := by rw [← hX]; exact (Blk.new w _ _).alloc _
  have hl : Dk X (w.heap.size + 1) n1 (fun _ => 0) := by
    rw [← hX]
    have h := Dk.made (w.alloc (.cells #[.slice mx ml mc, .slice (some ⟨bf, 0, none⟩) n n, .int .i64 up, .slice (some ⟨bl, 0, none⟩) n n, .slice (some ⟨br, 0, none⟩) nr nr] 56)) n1
    rwa [World.size_alloc] at h
  have hC : Chg (fun _ => False) w X := by rw [← hX]; exact ((Chg.refl _ w).then_alloc _).then_alloc _
  have hd := hd.chg hC (fun h => h)
  have hm := hm.chg hC (fun h => h) (fun h => h)
  have k2 := cell_of_row _ _ 2 _ _ _ hB
  have hmk := make_u64 n1 (by omega)
  have i1 : IntKind.i64.wrap ((n : Int) + 1) = (n1 : Int) := by rw [show (n : Int) + 1 = ((n1 : Nat) : Int) by omega]; exact IntWalk.i64_in _ (by omega)
  have hct := cut_to (w.heap.size + 1) 0 n1 n n1 (by omega)
  have hP : 2 ^ up < 18446744073709551616 := by
    have : 2 ^ up ≤ 2 ^ 63 := Nat.pow_le_pow_right (by omega) hup
    have e : (2 : Nat) ^ 63 = 9223372036854775808 := by decide
    omega
  have hAD := add_any (2 ^ up) (w.heap.size + 1) 0 n n1 n b 0 N c (fun _ => 0) D hP (by omega) (by omega) (by omega) X.drew hl hd (by omega)
  obtain ⟨p, hp⟩ : ∃ p, 2 ^ up = p := ⟨_, rfl⟩
  have i2 : (2 : Int) ^ up = (p : Int) := by rw [← hp]; exact (Int.natCast_pow 2 up).symm
  rw [hp] at hAD hP
  have i3 : IntKind.u64.wrap (p : Int) = (p : Int) := wrapN _ hP
  have i4 : (0 : Int) ≤ (up : Int) := by omega
  have i5 : (up : Int) ≤ 64 := by omega
  have i6 : (0 : Int) ≤ (n : Int) := by omega
  have i7 : (n : Int) < (n1 : Int) := by omega
  have HAD := Lib.hid hAD
  have HX := Lib.hid hX
  have HS := Lib.hid (And.intro hB (And.intro hl (And.intro hd (And.intro hm (And.intro hC (And.intro hn1 (And.intro hp ht)))))))
  clear hX hB hl hd hm hC hp ht hn1 hAD
  go_enter Tryd.func44, Tryd.ntmps44
  go_wp2_with fail
  rw [HX.out]
  --REG
  have hS0 : X.drew.cell? ⟨w.heap.size, 2, none⟩ = some (.int .i64 up) := k2
  refine wp_region_held_drew (S := fun w' => w'.cell? ⟨w.heap.size, 2, none⟩ = some (.int .i64 up)) (by as_aux_lemma => kernel_rfl) hS0 (fun hHeld => ?_)
  simp only [List.size_toArray, List.length_cons, List.length_nil, Nat.reduceAdd, Array.replicate_succ, Array.replicate_zero, List.push_toArray, List.nil_append, List.cons_append]
  refine wpAnyH_take (i := 0) (oi := { dst := some 13, op := Op.move (Operand.tmp 6), type := 54, pos := "modulus.go:116", after := #[], guard := none }) (v := ?vq0) rfl (by as_aux_lemma => kernel_rfl) (by as_aux_lemma => kernel_rfl) (by as_aux_lemma => kernel_rfl) (fun _ _ _ h => h) (Or.inl ⟨by rfl, ?yq0⟩) (by assumption) ?rq0
  case yq0 => (intro w hSw; (try dsimp only at hSw); have s1 := hSw; go_simp <;> with_reducible rfl)
  simp only [Act.put, List.setIfInBounds_toArray, List.set_cons_zero, List.set_cons_succ]
  refine wpAnyH_take (i := 1) (oi := { dst := some 14, op := Op.move (Operand.tmp 5), type := 3, pos := "modulus.go:116", after := #[], guard := none }) (v := ?vq1) rfl (by as_aux_lemma => kernel_rfl) (by as_aux_lemma => kernel_rfl) (by as_aux_lemma => kernel_rfl) (fun _ _ _ h => h) (Or.inl ⟨by rfl, ?yq1⟩) (by assumption) ?rq1
  case yq1 => (intro w hSw; (try dsimp only at hSw); have s1 := hSw; go_simp <;> with_reducible rfl)
  simp only [Act.put, List.setIfInBounds_toArray, List.set_cons_zero, List.set_cons_succ]
  refine wpAnyH_take (i := 2) (oi := { dst := some 15, op := Op.move (Operand.tmp 6), type := 54, pos := "modulus.go:116", after := #[], guard := none }) (v := ?vq2) rfl (by as_aux_lemma => kernel_rfl) (by as_aux_lemma => kernel_rfl) (by as_aux_lemma => kernel_rfl) (fun _ _ _ h => h) (Or.inl ⟨by rfl, ?yq2⟩) (by assumption) ?rq2
  case yq2 => (intro w hSw; (try dsimp only at hSw); have s1 := hSw; go_simp <;> with_reducible rfl)
  simp only [Act.put, List.setIfInBounds_toArray, List.set_cons_zero, List.set_cons_succ]
  refine wpAnyH_take (i := 3) (oi := { dst := some 16, op := Op.move (Operand.tmp 5), type := 3, pos := "modulus.go:116", after := #[], guard := none }) (v := ?vq3) rfl (by as_aux_lemma => kernel_rfl) (by as_aux_lemma => kernel_rfl) (by as_aux_lemma => kernel_rfl) (fun _ _ _ h => h) (Or.inl ⟨by rfl, ?yq3⟩) (by assumption) ?rq3
  case yq3 => (intro w hSw; (try dsimp only at hSw); have s1 := hSw; go_simp <;> with_reducible rfl)
  simp only [Act.put, List.setIfInBounds_toArray, List.set_cons_zero, List.set_cons_succ]
  refine wpAnyH_take (i := 4) (oi := { dst := some 17, op := Op.move (Operand.tmp 5), type := 3, pos := "modulus.go:116", after := #[], guard := none }) (v := ?vq4) rfl (by as_aux_lemma => kernel_rfl) (by as_aux_lemma => kernel_rfl) (by as_aux_lemma => kernel_rfl) (fun _ _ _ h => h) (Or.inl ⟨by rfl, ?yq4⟩) (by assumption) ?rq4
  case yq4 => (intro w hSw; (try dsimp only at hSw); have s1 := hSw; go_simp <;> with_reducible rfl)
  simp only [Act.put, List.setIfInBounds_toArray, List.set_cons_zero, List.set_cons_succ]
  refine wpAnyH_take (i := 5) (oi := { dst := some 18, op := Op.slice 54 (Operand.tmp 15) none (some (Operand.tmp 16)) (some (Operand.tmp 17)), type := 54, pos := "modulus.go:116", after := #[{ on := 2, ground := Ground.data }, { on := 3, ground := Ground.data }, { on := 4, ground := Ground.data }], guard := none }) (v := ?vq5) rfl (by as_aux_lemma => kernel_rfl) (by as_aux_lemma => kernel_rfl) (by as_aux_lemma => kernel_rfl) (fun _ _ _ h => h) (Or.inl ⟨by rfl, ?yq5⟩) (by assumption) ?rq5
  case yq5 => (intro w hSw; (try dsimp only at hSw); have s1 := hSw; go_simp <;> with_reducible rfl)
  simp only [Act.put, List.setIfInBounds_toArray, List.set_cons_zero, List.set_cons_succ]
  refine wpAnyH_take (i := 6) (oi := { dst := some 19, op := Op.move (Operand.tmp 1), type := 54, pos := "modulus.go:116", after := #[], guard := none }) (v := ?vq6) rfl (by as_aux_lemma => kernel_rfl) (by as_aux_lemma => kernel_rfl) (by as_aux_lemma => kernel_rfl) (fun _ _ _ h => h) (Or.inl ⟨by rfl, ?yq6⟩) (by assumption) ?rq6
  case yq6 => (intro w hSw; (try dsimp only at hSw); have s1 := hSw; go_simp <;> with_reducible rfl)
  simp only [Act.put, List.setIfInBounds_toArray, List.set_cons_zero, List.set_cons_succ]
  refine wpAnyH_take (i := 7) (oi := { dst := some 20, op := Op.fieldAddr 56 (Operand.tmp 2) 2, type := 0, pos := "modulus.go:116", after := #[], guard := none }) (v := ?vq7) rfl (by as_aux_lemma => kernel_rfl) (by as_aux_lemma => kernel_rfl) (by as_aux_lemma => kernel_rfl) (fun _ _ _ h => h) (Or.inl ⟨by rfl, ?yq7⟩) (by assumption) ?rq7
  case yq7 => (intro w hSw; (try dsimp only at hSw); have s1 := hSw; go_simp <;> with_reducible rfl)
  simp only [Act.put, List.setIfInBounds_toArray, List.set_cons_zero, List.set_cons_succ]
  refine wpAnyH_take (i := 8) (oi := { dst := some 21, op := Op.load 3 (Operand.tmp 20), type := 3, pos := "modulus.go:116", after := #[{ on := 7, ground := Ground.data }], guard := none }) (v := ?vq8) rfl (by as_aux_lemma => kernel_rfl) (by as_aux_lemma => kernel_rfl) (by as_aux_lemma => kernel_rfl) (fun _ _ _ h => h) (Or.inl ⟨by rfl, ?yq8⟩) (by assumption) ?rq8
  case yq8 => (intro w hSw; (try dsimp only at hSw); have s1 := hSw; go_simp <;> with_reducible rfl)
  simp only [Act.put, List.setIfInBounds_toArray, List.set_cons_zero, List.set_cons_succ]
  refine wpAnyH_take (i := 9) (oi := { dst := some 22, op := Op.binOp BinOp.shl 72 (Operand.const (Value.int IntKind.u64 1)) (Operand.tmp 21) 3, type := 72, pos := "modulus.go:116", after := #[{ on := 8, ground := Ground.data }], guard := none }) (v := ?vq9) rfl (by as_aux_lemma => kernel_rfl) (by as_aux_lemma => kernel_rfl) (by as_aux_lemma => kernel_rfl) (fun _ _ _ h => h) (Or.inl ⟨by rfl, ?yq9⟩) (by assumption) ?rq9
  case yq9 => (intro w hSw; (try dsimp only at hSw); have s1 := hSw; go_simp <;> with_reducible rfl)
  simp only [Act.put, List.setIfInBounds_toArray, List.set_cons_zero, List.set_cons_succ]
  refine wpAnyH_ready (rs := [10]) (by as_aux_lemma => kernel_rfl) (by simp) ?_
  refine AllReadyH.cons (o := { dst := some 23, op := Op.call { callee := Callee.value (Operand.func 39), args := #[Operand.tmp 18, Operand.tmp 19, Operand.tmp 22], argTypes := #[54, 54, 72] }, type := 72, pos := "modulus.go:116", after := #[{ on := 5, ground := Ground.data }, { on := 6, ground := Ground.data }, { on := 9, ground := Ground.data }], guard := none }) rfl (fun K hK => ?_) (by exact AllReadyH.nil)
  rw [if_pos (by rfl)]
  go_simp
  (go_at_call 39; refine HAD.out.mono ?_; rintro e wk ⟨cc, E, rfl, hcl, hd3, hout, hsum, hch3⟩)
  have hb1 := (show Blk X.drew w.heap.size _ _ from HS.out.1).chg hch3 (fun e => by omega)
  have hG := grown_set' (grown_refl wk (w.heap.size + 1)) n (.int .u64 (cc : Nat))
  have hb2 := hb1.kept hG (fun e => by injection e with e; omega)
  have c5 := hd3.cell n (by have := HS.out.2.2.2.2.2.1; omega)
  have c6 := hd3.free n
  have HS1 := Lib.hid (And.intro (cell_of_row _ _ 2 _ _ _ hb1) (cell_of_row _ _ 2 _ _ _ hb2))
  obtain ⟨Z, hZ⟩ : ∃ Z, wk.setCell ⟨w.heap.size + 1, n, none⟩ (.int .u64 (cc : Nat)) = Z := ⟨_, rfl⟩
  have hE1 : Dk Z (w.heap.size + 1) n1 (upf E n cc) := by rw [← hZ]; exact hd3.set n cc hcl
  have hV1 : dv (upf E n cc) (n + 1) = p * dv D n := by
    have h1 : dv (upf E n cc) (n + 1) = dv (upf E n cc) n + upf E n cc n * B64 ^ n := rfl
    have h2 : upf E n cc n = cc := by unfold upf; rw [if_pos rfl]
    have h3 : dv (upf E n cc) n = dv (fun i => E (0 + i)) n := dv_congr n fun i hi => by unfold upf; rw [if_neg (by omega), Nat.zero_add]
    have h4 : dv (fun i => D (0 + i)) n = dv D n := dv_congr n fun i hi => by rw [Nat.zero_add]
    rw [h1, h2, h3, hsum, h4, dv_zero n fun _ _ => rfl, Nat.zero_add]
  have hXZ : Chg (fun k => k = w.heap.size + 1) X Z := by rw [← hZ]; exact (show Chg (fun k => k = w.heap.size + 1) X wk from hch3).set _ n _ (fun _ => rfl)
  have hbZ : Blk Z w.heap.size 56 (mdc mx ml mc bf bl br n nr up) := by rw [← hZ]; exact hb2
  have HZ := Lib.hid hZ
  have HA1 := Lib.hid (And.intro hE1 (And.intro hV1 (And.intro hXZ hbZ)))
  clear hcl hd3 hout hsum hch3 hb1 hb2 hG hE1 hV1 hXZ hbZ hZ
  refine hK.out _ _ (by (try dsimp only); (first | exact hS0 | exact HS1.out.1 | exact HS1.out.2)) (fun hHeld => ?_)
  clear hK K
  simp only [List.setIfInBounds_toArray, List.set_cons_zero, List.set_cons_succ]
  refine wpAnyH_take (i := 11) (oi := { dst := some 24, op := Op.indexAddr 54 (Operand.tmp 13) (Operand.tmp 14), type := 0, pos := "modulus.go:116", after := #[{ on := 0, ground := Ground.data }, { on := 1, ground := Ground.data }, { on := 0, ground := Ground.phase }, { on := 1, ground := Ground.phase }, { on := 2, ground := Ground.phase }, { on := 3, ground := Ground.phase }, { on := 4, ground := Ground.phase }, { on := 5, ground := Ground.phase }, { on := 6, ground := Ground.phase }, { on := 7, ground := Ground.phase }, { on := 8, ground := Ground.phase }, { on := 9, ground := Ground.phase }, { on := 10, ground := Ground.phase }], guard := none }) (v := ?vq11) rfl (by as_aux_lemma => kernel_rfl) (by as_aux_lemma => kernel_rfl) (by as_aux_lemma => kernel_rfl) (fun _ _ _ h => h) (Or.inl ⟨by rfl, ?yq11⟩) (by assumption) ?rq11
  case yq11 => (intro w hSw; (try dsimp only at hSw); have s1 := hSw; go_simp <;> with_reducible rfl)
  simp only [Act.put, List.setIfInBounds_toArray, List.set_cons_zero, List.set_cons_succ]
  refine wpAnyH_ready (rs := [12]) (by as_aux_lemma => kernel_rfl) (by simp) ?_
  refine AllReadyH.cons (o := { dst := none, op := Op.store 72 (Operand.tmp 24) (Operand.tmp 23), type := 0, pos := "modulus.go:116", after := #[{ on := 11, ground := Ground.data }, { on := 10, ground := Ground.data }, { on := 10, ground := Ground.chain }, { on := 0, ground := Ground.phase }, { on := 1, ground := Ground.phase }, { on := 2, ground := Ground.phase }, { on := 3, ground := Ground.phase }, { on := 4, ground := Ground.phase }, { on := 5, ground := Ground.phase }, { on := 6, ground := Ground.phase }, { on := 7, ground := Ground.phase }, { on := 8, ground := Ground.phase }, { on := 9, ground := Ground.phase }, { on := 10, ground := Ground.phase }], guard := none }) rfl (fun K hK => ?_) (by exact AllReadyH.nil)
  rw [if_pos (by rfl)]
  go_simp
  refine hK.out _ _ (by (try dsimp only); (first | exact hS0 | exact HS1.out.1 | exact HS1.out.2)) (fun hHeld => ?_)
  clear hK K
  simp only [List.setIfInBounds_toArray, List.set_cons_zero, List.set_cons_succ]
  refine wpAnyH_done (by as_aux_lemma => kernel_rfl) ?_ _
  clear hS0 hHeld
  rw [HZ.out]
  obtain ⟨hE1, hV1, hXZ, hbZ⟩ := HA1.out
  obtain ⟨hB, hl, hd, hm, hC, hn1, hp, ht⟩ := HS.out
  have hm1 := hm.chg hXZ (by omega) (by omega)
  have hMP := hm.pos
  have hpre : dv (fun i => upf E n cc (0 + (i + 1))) n < M := by
    rw [dv_congr (g := fun i => upf E n cc (i + 1)) n fun i _ => by rw [Nat.zero_add]]
    rw [dv_low] at hV1
    have h1 : B64 * dv (fun i => upf E n cc (i + 1)) n ≤ p * dv D n := by omega
    have h2 : p * dv D n < B64 * M := Nat.mul_lt_mul_of_le_of_lt (Nat.le_of_lt hP) ht (by unfold B64; omega)
    exact Nat.lt_of_mul_lt_mul_left (Nat.lt_of_le_of_lt h1 h2)
  have hST := step_any mx ml mc bf bl br n nr up M (w.heap.size + 1) 0 n1 n1 (upf E n cc) Z (by omega) (by omega) hm1 hE1 (by omega) (by omega) hpre
  rw [hn1] at hST hV1
  have HST := Lib.hid hST
  have k0 := cell_of_row _ _ 0 _ _ _ hbZ
  have k1 := cell_of_row _ _ 1 _ _ _ hbZ
  have k2' := cell_of_row _ _ 2 _ _ _ hbZ
  have k3 := cell_of_row _ _ 3 _ _ _ hbZ
  have k4 := cell_of_row _ _ 4 _ _ _ hbZ
  have HV := Lib.hid (And.intro hV1 (And.intro hMP (And.intro hXZ hbZ)))
  have HN := Lib.hid hn1
  clear hE1 hV1 hXZ hbZ hB hl hd hm hC hn1 hp ht hm1 hMP hpre hST HAD k2 hmk hct i1 i2 i3
  go_wp2_with (first | (go_at_call 57; refine HST.out.mono ?_; rintro e w2 ⟨E2, rfl, hd2, hout2, hv2, hch2⟩; have HA2 := Lib.hid (And.intro hd2 (And.intro hv2 hch2)); clear hd2 hout2 hv2 hch2) | fail)
  clear k0 k1 k2' k3 k4
  have hb2 := HV.out.2.2.2.chg HA2.out.2.2 (fun e => by omega)
  have hv2 : dv E2 n1 = dv D n % M0 * p := by
    have h0 : dv (fun i => E2 (0 + i)) n1 = dv E2 n1 := dv_congr n1 fun i _ => by rw [Nat.zero_add]
    have h1 : dv (fun i => upf E n cc (0 + i)) n1 = dv (upf E n cc) n1 := dv_congr n1 fun i _ => by rw [Nat.zero_add]
    rw [← h0, HA2.out.2.1, h1, HV.out.1, ← hM, HS.out.2.2.2.2.2.2.1, Nat.mul_comm p, Nat.mul_mod_mul_right]
  have hn0z : E2 n = 0 := by
    have h2 : dv E2 (n + 1) = dv E2 n + E2 n * B64 ^ n := rfl
    rw [HN.out, hv2] at h2
    have h3 : dv D n % M0 * p < M := by
      rw [← hM, HS.out.2.2.2.2.2.2.1]
      have hp0 : 0 < p := by rw [← HS.out.2.2.2.2.2.2.1]; exact Nat.pow_pos (by omega)
      have hM00 : 0 < M0 := Nat.pos_of_ne_zero fun e => by have := HV.out.2.1.1; rw [← hM, e, Nat.zero_mul] at this; omega
      exact Nat.mul_lt_mul_of_pos_right (Nat.mod_lt _ hM00) hp0
    rcases Nat.eq_zero_or_pos (E2 n) with e | e
    · exact e
    · have : 1 * B64 ^ n ≤ E2 n * B64 ^ n := Nat.mul_le_mul_right _ e
      have := HV.out.2.1.2
      omega
  have HF := Lib.hid (And.intro hv2 (And.intro hn0z hb2))
  clear hv2 hn0z hb2
  go_loopw [29] (fun t wr => ∃ i : Nat, t = .int .i64 i ∧ i ≤ n ∧ Dk wr (w.heap.size + 1) n1 (fun j => if j < i then shd E2 up j else E2 j) ∧ Chg (fun k => k = w.heap.size + 1) w2 wr) (fun t _ => n - (intOf t).toNat)
  case atStart => exact ⟨0, rfl, Nat.zero_le _, HA2.out.1.congr fun j _ => by rw [if_neg (by omega)], Chg.refl _ _⟩
  case round =>
    obtain ⟨i, rfl, hi, hd, hch⟩ := hrel
    have hb := HF.out.2.2.chg hch (fun e => by omega)
    by_cases hlt : i < n
    · have c1 := hd.cell i (by omega)
      have c2 := hd.cell (i + 1) (by omega)
      rw [if_neg (by omega)] at c1 c2
      have x1l : E2 i < B64 := by have := hd.dig i (by omega); rwa [if_neg (by omega)] at this
      have x2l : E2 (i + 1) < B64 := by have := hd.dig (i + 1) (by omega); rwa [if_neg (by omega)] at this
      have c3 := hd.free i
      have k2 := cell_of_row _ _ 2 _ _ _ hb
      have hsl := shd_lt E2 up i hup x1l
      have hor := shd_or (E2 i) (E2 (i + 1)) up hup x1l
      have hhi := shd_high (E2 (i + 1)) up hup
      have HD := Lib.hid (And.intro hd (And.intro hch (And.intro hb hsl)))
      obtain ⟨y, hy⟩ : ∃ y, shd E2 up i = y := ⟨_, rfl⟩
      rw [show E2 i / 2 ^ up + E2 (i + 1) % 2 ^ up * 2 ^ (64 - up) = y from hy] at hor
      obtain ⟨x1, hx1⟩ : ∃ x, E2 i = x := ⟨_, rfl⟩
      obtain ⟨x2, hx2⟩ : ∃ x, E2 (i + 1) = x := ⟨_, rfl⟩
      rw [hx1] at c1 x1l hor
      rw [hx2] at c2 hor hhi
      obtain ⟨dn, hdn⟩ : ∃ x, 64 - up = x := ⟨_, rfl⟩
      rw [hdn] at hor hhi
      have m1 : IntKind.i64.wrap (dn : Int) = (dn : Int) := IntWalk.i64_in _ (by omega)
      have m1' : 64 - (up : Int) = (dn : Int) := by omega
      have m2 : (0 : Int) ≤ (dn : Int) := by omega
      have m3 : (dn : Int) ≤ 64 := by omega
      obtain ⟨z1, hz1⟩ : ∃ z, x1 / 2 ^ up = z := ⟨_, rfl⟩
      obtain ⟨z2, hz2⟩ : ∃ z, (x2 % 2 ^ up) * 2 ^ dn = z := ⟨_, rfl⟩
      rw [hz1, hz2] at hor
      rw [hz2] at hhi
      have m4 : (x1 : Int) / 2 ^ up = (z1 : Int) := by rw [← hz1, Int.natCast_ediv, Int.natCast_pow]; rfl
      have m5 : IntKind.u64.wrap ((x2 : Int) * 2 ^ dn) = (z2 : Int) := by
        have e : (x2 : Int) * 2 ^ dn = ((x2 * 2 ^ dn : Nat) : Int) := by rw [Int.natCast_mul, Int.natCast_pow]; rfl
        rw [e, wrapM, ← hhi]; rfl
      have hz1l : z1 < 18446744073709551616 := by rw [← hz1]; exact Nat.lt_of_le_of_lt (Nat.div_le_self _ _) x1l
      have hz2l : z2 < 18446744073709551616 := by rw [← hhi]; exact Nat.mod_lt _ (by unfold B64; omega)
      have m6 : bits .or .u64 (z1 : Int) (z2 : Int) = (y : Int) := by rw [← hor]; exact bits_or_u64_nat z1 z2 hz1l hz2l
      have m7 : IntKind.u64.wrap (z1 : Int) = z1 := wrapN _ hz1l
      have m8 : (0 : Int) ≤ (i : Int) := by omega
      have m9 : (i : Int) < (n : Int) := by omega
      have m10 : (i : Int) < (n1 : Int) := by omega
      have m11 : IntKind.i64.wrap ((i : Int) + 1) = ((i + 1 : Nat) : Int) := IntWalk.i64_in _ (by omega)
      obtain ⟨i1, hi1⟩ : ∃ x, i + 1 = x := ⟨_, rfl⟩
      rw [hi1] at c2 m11
      have m12 : (0 : Int) ≤ (i1 : Int) := by omega
      have m13 : (i1 : Int) < (n1 : Int) := by omega
      have m14 : (i : Int) + 1 = (i1 : Int) := by omega
      have m15 : IntKind.i64.wrap (i1 : Int) = (i1 : Int) := IntWalk.i64_in _ (by omega)
      have HI := Lib.hid (And.intro hi1 hy)
      clear hd hch hb hsl hor hhi hx1 hx2 hdn hz1 hz2 hi1 hy x1l x2l hz1l hz2l
      go_wp2_with fail
      refine region_tail 20 (by kernel_rfl) (by kernel_rfl) (fun wd hwd => ?_)
      simp only [List.take_succ_cons, List.take_zero, List.drop_succ_cons, List.drop_zero]
      have c1' : wd.cell? ⟨w.heap.size + 1, i, none⟩ = some (.int .u64 x1) := by rw [hwd]; exact c1
      have c2' : wd.cell? ⟨w.heap.size + 1, i1, none⟩ = some (.int .u64 x2) := by rw [hwd]; exact c2
      have c3' : wd.frozen? ⟨w.heap.size + 1, i, none⟩ = false := by rw [hwd]; exact c3
      have k2'' : wd.cell? ⟨w.heap.size, 2, none⟩ = some (.int .i64 up) := by rw [hwd]; exact k2
      have HDD := Lib.hid (show Dk wd (w.heap.size + 1) n1 (fun j => if j < i then shd E2 up j else E2 j) ∧ Chg (fun k => k = w.heap.size + 1) w2 wd from by rw [hwd]; exact ⟨HD.out.1, HD.out.2.1.drew⟩)
      clear hwd c1 c2 c3 k2
      repeat still_step
      refine wpStill_nil ?_
      go_wp2_with fail
      have hS2 := HDD.out.1.set i y (by rw [← HI.out.2]; exact HD.out.2.2.2)
      refine ⟨⟨i1, rfl, by have := HI.out.1; omega, hS2.congr fun j _ => ?_, HDD.out.2.set _ i _ (fun _ => rfl)⟩, by have := HI.out.1; simp [intOf]; omega⟩
      unfold upf
      by_cases e1 : j = i
      · subst e1; rw [if_pos rfl, if_pos (by have := HI.out.1; omega), HI.out.2]
      · rw [if_neg e1]
        show (if j < i then shd E2 up j else E2 j) = _
        by_cases e2 : j < i
        · rw [if_pos e2, if_pos (by have := HI.out.1; omega)]
        · rw [if_neg e2, if_neg (by have := HI.out.1; omega)]
    · obtain rfl : i = n := by omega
      have hct := cut_to (w.heap.size + 1) 0 n1 i n1 (by omega)
      have HD := Lib.hid (And.intro hd hch)
      clear hd hch hb
      go_wp2_with fail
      go_ret
      refine ⟨w.heap.size + 1, shd E2 up, rfl, (HD.out.1.less (by have := HN.out; omega)).congr fun j hj => by rw [if_pos hj], ?_, ?_⟩
      · rw [shift_down E2 up i hup HF.out.2.1]
        have h2 : dv E2 (i + 1) = dv E2 i + E2 i * B64 ^ i := rfl
        rw [HN.out, HF.out.1, HF.out.2.1, Nat.zero_mul, Nat.add_zero] at h2
        rw [← h2, HS.out.2.2.2.2.2.2.1, Nat.mul_div_cancel _ (by rw [← HS.out.2.2.2.2.2.2.1]; exact Nat.pow_pos (by omega))]
      · exact ((((HS.out.2.2.2.2.1.mono (N := fun k => k = w.heap.size + 1) (fun _ _ h => h.elim)).trans HV.out.2.2.1 (fun _ _ h => h)).trans HA2.out.2.2 (fun _ _ h => h)).trans HD.out.2 (fun _ _ h => h)).below (Nat.le_refl _) (fun k hk e => by omega)
end Go.Proofs.YtjkniebedgiclaaDoor
