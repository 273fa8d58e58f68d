/- big: base. -/
import Derived.Test.YtjkniebedgiclaaDoorFw
namespace Go.Proofs.YtjkniebedgiclaaDoor
open Go.RowKit Go.Shelf

theorem Md.low {X : World} {bf bl n M : Nat} (h : Md X bf bl n M) : B64 ^ (n - 1) ≤ M := by
  obtain ⟨F, L, h1, h2, h3, h4, h5, h6, h7⟩ := h
  have := dv_ge (f := F) n (n - 1) (by omega)
  have h8 : 1 * B64 ^ (n - 1) ≤ F (n - 1) * B64 ^ (n - 1) := Nat.mul_le_mul_right _ (by omega)
  omega
theorem base_top (D : Nat → Nat) (h n M : Nat) (hn : 0 < n) (hD : ∀ i, i < h + n → D i < B64) (h0 : D (h + (n - 1)) = 0) (hM : B64 ^ (n - 1) ≤ M) : dv (fun i => D (h + i)) n < M := by
  obtain ⟨m, rfl⟩ : ∃ m, n = m + 1 := ⟨n - 1, by omega⟩
  rw [Nat.add_sub_cancel] at h0 hM
  have h1 : dv (fun i => D (h + i)) (m + 1) = dv (fun i => D (h + i)) m + D (h + m) * B64 ^ m := rfl
  rw [h1, h0, Nat.zero_mul, Nat.add_zero]
  exact Nat.lt_of_lt_of_le (dv_lt m fun i hi => hD (h + i) (by omega)) hM
theorem base_val (V J z : Nat) (hV : V < B64 ^ J) : dv (fun i => ((List.range J).map (dg V) ++ List.replicate z 0).getD i 0) (J + z) = V := by
  rw [dv_extend J (J + z) (by omega) fun i h1 h2 => by
    rw [List.getD_eq_getElem?_getD, List.getElem?_append_right (by simpa using h1)]
    simp only [List.length_map, List.length_range, List.getElem?_replicate]
    split <;> rfl]
  rw [dv_congr (g := dg V) J fun i hi => by
    rw [List.getD_eq_getElem?_getD, List.getElem?_append_left (by simpa using hi), List.getElem?_map, List.getElem?_range hi]; rfl]
  rw [dv_dg, Nat.mod_eq_of_lt hV]

set_option maxRecDepth 100000 in
set_option maxHeartbeats 4000000 in
theorem base_any (B : Nat) (mx : Option Addr) (ml mc bf bl br n nr up M : Nat) (v : Value) (l : List Nat) (w : World) (hl : l.length ≤ 128) (hv : Bto B w v l) (hm : Md w bf bl n M) :
    Calls Tryd.prog 41 #[mdv mx ml mc bf bl br n nr up, v] w fun e w' =>
      ∃ g N E, e = .returned (.slice (some ⟨g, 0, none⟩) n n) ∧ n ≤ N ∧ Dk w' g N E ∧ dv E n = bv l % M ∧ w.heap.size ≤ g ∧ Below w.heap.size w w' := by
  have hn0 : 0 < n ∧ n ≤ 16 := by obtain ⟨F, L, _, _, _, _, h1, h2, _⟩ := hm; exact ⟨h2, h1⟩
  have hmb : bf < w.heap.size ∧ bl < w.heap.size := by obtain ⟨F, L, h1, h2, _⟩ := hm; exact ⟨h1.lt, h2.lt⟩
  have hlz := dz_le l
  obtain ⟨X, hX⟩ : ∃ X, w.alloc (.cells #[.slice mx ml mc, .slice (some ⟨bf, 0, none⟩) n n, .int .i64 up, .slice (some ⟨bl, 0, none⟩) n n, .slice (some ⟨br, 0, none⟩) nr nr] 56) = X := ⟨_, rfl⟩
  have hB : Blk X w.heap.size 56 (mdc mx ml mc bf bl br n nr up) := by rw [← hX]; exact Blk.new w _ _
  have hC : Below w.heap.size w X := by rw [← hX]; exact (Below.refl _ w).alloc (Nat.le_refl _) _
  have hXs : X.heap.size = w.heap.size + 1 := by rw [← hX]; simp
  have hm := hm.chg (P := fun _ => False) (Chg.new hC) (fun h => h) (fun h => h)
  have hD := Lib.hid (digits_any B v l X hl (hv.new hC))
  have hJlt := bv_many (dz l) fun x hx => hv.1 x (dz_mem l x hx)
  rw [bv_dz] at hJlt
  obtain ⟨J, hJ⟩ : ∃ J, many (dz l).length = J := ⟨_, rfl⟩
  have hJ16 := many_le (dz l).length (by omega)
  obtain ⟨V, hV⟩ : ∃ V, bv l = V := ⟨_, rfl⟩
  unfold dgs at hD
  rw [hJ] at hJlt hD hJ16
  rw [hV] at hJlt hD ⊢
  obtain ⟨lk, hlk⟩ : ∃ x, n - J = x := ⟨_, rfl⟩
  obtain ⟨z, hz⟩ : ∃ x, lk + 1 = x := ⟨_, rfl⟩
  have g1 : IntKind.i64.wrap ((n : Int) - (J : Int)) = (n : Int) - (J : Int) := IntWalk.i64_in _ (by omega)
  have g2 : max ((n : Int) - (J : Int)) 0 = (lk : Int) := by omega
  have g3 : IntKind.i64.wrap ((lk : Int) + 1) = (z : Int) := by rw [show (lk : Int) + 1 = (z : Int) by omega]; exact IntWalk.i64_in _ (by omega)
  have HX := Lib.hid hX
  have HS := Lib.hid (And.intro hB (And.intro hC (And.intro hXs (And.intro hm (And.intro hJlt (And.intro hlk hz))))))
  clear hX hB hC hXs hm hJ hV hJlt hv hlz hlk hz
  go_enter Tryd.func41, Tryd.ntmps41
  go_wp2_with fail
  rw [HX.out]
  refine hD.out.mono ?_
  rintro e w1 ⟨⟨v3, rfl, hO3⟩, hb1⟩
  obtain ⟨x3, c3, hv3, hc3⟩ := hO3.is
  rw [show ((List.range J).map (dg V)).length = J by simp] at hv3 hc3
  rw [hv3] at hO3 ⊢
  have hb2 := HS.out.1.keep hb1
  have k0 := cell_of_row _ _ 0 _ _ _ hb2
  have k1 := cell_of_row _ _ 1 _ _ _ hb2
  have k2 := cell_of_row _ _ 2 _ _ _ hb2
  have k3 := cell_of_row _ _ 3 _ _ _ hb2
  have k4 := cell_of_row _ _ 4 _ _ _ hb2
  have H1 := Lib.hid (And.intro hO3 (And.intro hb1 (And.intro hb2 hc3)))
  clear hO3 hb1 hb2 hc3 hv3
  go_wp2_with fail
  --REG
  have hS0 : w1.drew.cell? ⟨w.heap.size, 0, none⟩ = some (.slice mx ml mc) ∧ w1.drew.cell? ⟨w.heap.size, 1, none⟩ = some (.slice (some ⟨bf, 0, none⟩) n n) ∧ w1.drew.cell? ⟨w.heap.size, 2, none⟩ = some (.int .i64 up) ∧ w1.drew.cell? ⟨w.heap.size, 3, none⟩ = some (.slice (some ⟨bl, 0, none⟩) n n) ∧ w1.drew.cell? ⟨w.heap.size, 4, none⟩ = some (.slice (some ⟨br, 0, none⟩) nr nr) := ⟨k0, k1, k2, k3, k4⟩
  have hOd : OwD w1.drew X.heap.size (.slice x3 J c3) ((List.range J).map (dg V)) := H1.out.1.kept (row := none) ⟨rfl, rfl, rfl, Nat.le_refl _, fun _ _ _ => rfl⟩ (fun _ e => by cases e)
  obtain ⟨v4, w4, hr4, hO4, hg4⟩ := run_zeros_own w1.drew 54 X.heap.size (.slice x3 J c3) _ z (by have := HS.out; omega) (by have := HS.out; omega) (by simp; omega) hOd H1.out.2.1.size
  have hrow : ∀ r, (Value.slice x3 J c3).ownBlock = some r → X.heap.size ≤ r := fun r e => (hOd.2.lt r e).1
  have hne4 : (List.range J).map (dg V) ++ List.replicate z 0 ≠ [] := fun e => by have := congrArg List.length e; simp at this; have := HS.out; omega
  obtain ⟨g4, c4, hv4, hc4, hg4b, hd4⟩ := hO4.dk hne4
  have hlen4 : ((List.range J).map (dg V) ++ List.replicate z 0).length = J + z := by simp
  rw [hlen4] at hv4 hc4 hd4
  subst hv4
  obtain ⟨h, hh⟩ : ∃ h, n + h = J + z := ⟨J + z - n, by have := HS.out; omega⟩
  have hb4 : Blk w4 w.heap.size 56 (mdc mx ml mc bf bl br n nr up) := (show Blk w1.drew w.heap.size _ _ from H1.out.2.2.1).kept hg4 (fun e => by have := hrow _ e.symm; have := HS.out; omega)
  have hm4 : Md w4 bf bl n M := by
    have h1 : Md w1.drew bf bl n M := HS.out.2.2.2.1.chg (P := fun _ => False) (Chg.new (below_drew' H1.out.2.1)) (fun h => h) (fun h => h)
    exact h1.chg (Chg.of hg4) (fun e => by have := hrow _ e.symm; have := HS.out; omega) (fun e => by have := hrow _ e.symm; have := HS.out; omega)
  have hval := base_val V J z HS.out.2.2.2.2.1
  have hz0 : (((List.range J).map (dg V) ++ List.replicate z 0).getD (h + (n - 1)) 0) = 0 := by
    have e : J ≤ h + (n - 1) := by have := HS.out; omega
    rw [List.getD_eq_getElem?_getD, List.getElem?_append_right (by simpa using e)]
    simp only [List.length_map, List.length_range, List.getElem?_replicate]
    split <;> rfl
  have htop := base_top _ h n M hn0.1 (fun i hi => hd4.dig i (by omega)) hz0 HS.out.2.2.2.1.low
  have hRS := rest_any mx ml mc bf bl br n nr up M g4 h c4 (J + z) _ w4 (by omega) (by have := HS.out; omega) (by omega) hm4 hd4 (by have := HS.out; omega) (by have := HS.out; omega) htop
  rw [hh, hval] at hRS
  have HRS := Lib.hid hRS
  have hS4 : w4.cell? ⟨w.heap.size, 0, none⟩ = some (.slice mx ml mc) ∧ w4.cell? ⟨w.heap.size, 1, none⟩ = some (.slice (some ⟨bf, 0, none⟩) n n) ∧ w4.cell? ⟨w.heap.size, 2, none⟩ = some (.int .i64 up) ∧ w4.cell? ⟨w.heap.size, 3, none⟩ = some (.slice (some ⟨bl, 0, none⟩) n n) ∧ w4.cell? ⟨w.heap.size, 4, none⟩ = some (.slice (some ⟨br, 0, none⟩) nr nr) := ⟨cell_of_row _ _ 0 _ _ _ hb4, cell_of_row _ _ 1 _ _ _ hb4, cell_of_row _ _ 2 _ _ _ hb4, cell_of_row _ _ 3 _ _ _ hb4, cell_of_row _ _ 4 _ _ _ hb4⟩
  have hB4 : Below w.heap.size w w4 := by
    have h1 : Below w.heap.size w w1.drew := below_drew' (HS.out.2.1.trans (H1.out.2.1.mono (by have := HS.out; omega)))
    exact h1.grown hg4 h1.size (fun r e => by have := hrow r e; have := HS.out; omega)
  have H4 := Lib.hid (And.intro hr4 (And.intro hB4 (And.intro hg4b (And.intro hh hb4))))
  have HS0 := Lib.hid (And.intro hS0 hS4)
  clear hr4 hO4 hg4 hrow hne4 hg4b hd4 hlen4 hb4 hm4 hval hz0 htop hRS hB4 hOd hc4 hS4 k0 k1 k2 k3 k4
  refine wp_region_held_drew (S := fun w' => w'.cell? ⟨w.heap.size, 0, none⟩ = some (.slice mx ml mc) ∧ w'.cell? ⟨w.heap.size, 1, none⟩ = some (.slice (some ⟨bf, 0, none⟩) n n) ∧ w'.cell? ⟨w.heap.size, 2, none⟩ = some (.int .i64 up) ∧ w'.cell? ⟨w.heap.size, 3, none⟩ = some (.slice (some ⟨bl, 0, none⟩) n n) ∧ w'.cell? ⟨w.heap.size, 4, none⟩ = some (.slice (some ⟨br, 0, none⟩) nr nr)) (by as_aux_lemma => kernel_rfl) HS0.out.1 (fun hHeld => ?_)
  simp only [List.size_toArray, List.length_cons, List.length_nil, Nat.reduceAdd, Array.replicate_succ, Array.replicate_zero, List.push_toArray, List.nil_append, List.cons_append]
  refine wpAnyH_take (i := 0) (oi := { dst := some 16, op := Op.load 56 (Operand.tmp 2), type := 56, pos := "modulus.go:78", after := #[], guard := none }) (v := ?vq0) rfl (by as_aux_lemma => kernel_rfl) (by as_aux_lemma => kernel_rfl) (by as_aux_lemma => kernel_rfl) (fun _ _ _ h => h) (Or.inl ⟨by rfl, ?yq0⟩) (by assumption) ?rq0
  case yq0 => (intro w hSw; (try dsimp only at hSw); obtain ⟨s0, s1, s2, s3, s4⟩ := hSw; go_simp <;> with_reducible rfl)
  simp only [Act.put, List.setIfInBounds_toArray, List.set_cons_zero, List.set_cons_succ]
  refine wpAnyH_take (i := 1) (oi := { dst := some 17, op := Op.move (Operand.tmp 5), type := 54, pos := "modulus.go:78", after := #[], guard := none }) (v := ?vq1) rfl (by as_aux_lemma => kernel_rfl) (by as_aux_lemma => kernel_rfl) (by as_aux_lemma => kernel_rfl) (fun _ _ _ h => h) (Or.inl ⟨by rfl, ?yq1⟩) (by assumption) ?rq1
  case yq1 => (intro w hSw; (try dsimp only at hSw); obtain ⟨s0, s1, s2, s3, s4⟩ := hSw; go_simp <;> with_reducible rfl)
  simp only [Act.put, List.setIfInBounds_toArray, List.set_cons_zero, List.set_cons_succ]
  refine wpAnyH_take (i := 2) (oi := { dst := some 18, op := Op.move (Operand.tmp 6), type := 3, pos := "modulus.go:78", after := #[], guard := none }) (v := ?vq2) rfl (by as_aux_lemma => kernel_rfl) (by as_aux_lemma => kernel_rfl) (by as_aux_lemma => kernel_rfl) (fun _ _ _ h => h) (Or.inl ⟨by rfl, ?yq2⟩) (by assumption) ?rq2
  case yq2 => (intro w hSw; (try dsimp only at hSw); obtain ⟨s0, s1, s2, s3, s4⟩ := hSw; go_simp <;> with_reducible rfl)
  simp only [Act.put, List.setIfInBounds_toArray, List.set_cons_zero, List.set_cons_succ]
  refine wpAnyH_take (i := 3) (oi := { dst := some 19, op := Op.binOp BinOp.add 3 (Operand.tmp 18) (Operand.const (Value.int IntKind.i64 1)) 3, type := 3, pos := "modulus.go:78", after := #[{ on := 2, ground := Ground.data }], guard := none }) (v := ?vq3) rfl (by as_aux_lemma => kernel_rfl) (by as_aux_lemma => kernel_rfl) (by as_aux_lemma => kernel_rfl) (fun _ _ _ h => h) (Or.inl ⟨by rfl, ?yq3⟩) (by assumption) ?rq3
  case yq3 => (intro w hSw; (try dsimp only at hSw); obtain ⟨s0, s1, s2, s3, s4⟩ := hSw; go_simp <;> with_reducible rfl)
  simp only [Act.put, List.setIfInBounds_toArray, List.set_cons_zero, List.set_cons_succ]
  refine wpAnyH_ready (rs := [4]) (by as_aux_lemma => kernel_rfl) (by simp) ?_
  refine AllReadyH.cons (o := { dst := some 20, op := Op.call { callee := Callee.builtin Builtin.append, args := #[Operand.tmp 17, Operand.tmp 19], argTypes := #[54, 3] }, type := 54, pos := "modulus.go:78", after := #[{ on := 1, ground := Ground.data }, { on := 3, ground := Ground.data }], guard := none }) rfl (fun K hK => ?_) (by exact AllReadyH.nil)
  rw [if_pos (by rfl)]
  refine Lib.wp_append_run _ (.tmp 17) (.tmp 19) 54 3 rfl _ _ rfl rfl _ _ H4.out.1 ?_
  refine hK.out _ _ (by (try dsimp only); (first | exact HS0.out.1 | exact HS0.out.2 | exact HS5.out)) (fun hHeld => ?_)
  clear hK K
  simp only [List.setIfInBounds_toArray, List.set_cons_zero, List.set_cons_succ]
  refine wpAnyH_ready (rs := [5]) (by as_aux_lemma => kernel_rfl) (by simp) ?_
  refine AllReadyH.cons (o := { dst := some 21, op := Op.call { callee := Callee.value (Operand.func 56), args := #[Operand.tmp 16, Operand.tmp 20], argTypes := #[56, 54] }, type := 54, pos := "modulus.go:78", after := #[{ on := 0, ground := Ground.data }, { on := 4, ground := Ground.data }, { on := 4, ground := Ground.chain }], guard := none }) rfl (fun K hK => ?_) (by exact AllReadyH.nil)
  rw [if_pos (by rfl)]
  go_simp
  (go_at_call 56; refine HRS.out.mono ?_; rintro e w5 ⟨E, rfl, hd5, hv5, hch5⟩)
  have hb5 := H4.out.2.2.2.2.chg hch5 (fun e => by have := H4.out.2.2.1; have := HS.out; omega)
  have HS5 := Lib.hid (show w5.cell? ⟨w.heap.size, 0, none⟩ = some (.slice mx ml mc) ∧ w5.cell? ⟨w.heap.size, 1, none⟩ = some (.slice (some ⟨bf, 0, none⟩) n n) ∧ w5.cell? ⟨w.heap.size, 2, none⟩ = some (.int .i64 up) ∧ w5.cell? ⟨w.heap.size, 3, none⟩ = some (.slice (some ⟨bl, 0, none⟩) n n) ∧ w5.cell? ⟨w.heap.size, 4, none⟩ = some (.slice (some ⟨br, 0, none⟩) nr nr) from ⟨cell_of_row _ _ 0 _ _ _ hb5, cell_of_row _ _ 1 _ _ _ hb5, cell_of_row _ _ 2 _ _ _ hb5, cell_of_row _ _ 3 _ _ _ hb5, cell_of_row _ _ 4 _ _ _ hb5⟩)
  have H5 := Lib.hid (And.intro hd5 (And.intro hv5 hch5))
  clear hd5 hv5 hch5 hb5
  refine hK.out _ _ (by (try dsimp only); (first | exact HS0.out.1 | exact HS0.out.2 | exact HS5.out)) (fun hHeld => ?_)
  clear hK K
  simp only [List.setIfInBounds_toArray, List.set_cons_zero, List.set_cons_succ]
  refine wpAnyH_take (i := 6) (oi := { dst := some 4, op := Op.assign (Operand.tmp 21), type := 54, pos := "modulus.go:78", after := #[{ on := 5, ground := Ground.data }, { on := 5, ground := Ground.chain }, { on := 0, ground := Ground.phase }, { on := 1, ground := Ground.phase }, { on := 2, ground := Ground.phase }, { on := 3, ground := Ground.phase }, { on := 4, ground := Ground.phase }, { on := 5, ground := Ground.phase }], guard := none }) (v := ?vq6) rfl (by as_aux_lemma => kernel_rfl) (by as_aux_lemma => kernel_rfl) (by as_aux_lemma => kernel_rfl) (fun _ _ _ h => h) (Or.inl ⟨by rfl, ?yq6⟩) (by assumption) ?rq6
  case yq6 => (intro w hSw; (try dsimp only at hSw); obtain ⟨s0, s1, s2, s3, s4⟩ := hSw; go_simp <;> with_reducible rfl)
  simp only [Act.put, List.setIfInBounds_toArray, List.set_cons_zero, List.set_cons_succ]
  refine wpAnyH_done (by as_aux_lemma => kernel_rfl) ?_ _
  clear hHeld hS0
  go_wp2_with fail
  go_ret
  exact ⟨g4, J + z, E, rfl, by have := H4.out; omega, H5.out.1, H5.out.2.1, by have := H4.out; have := HS.out; omega, H4.out.2.1.trans (H5.out.2.2.below (by have := H4.out.2.1.size; omega) (fun k hk e => by have := H4.out; have := HS.out; omega))⟩
end Go.Proofs.YtjkniebedgiclaaDoor
