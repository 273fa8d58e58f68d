/- big: works. -/
import Derived.Test.YtjkniebedgiclaaDoorOl
namespace Go.Proofs.YtjkniebedgiclaaDoor
open Go.RowKit Go.Shelf
attribute [local go_sem] Oper.semAt_some
set_option maxRecDepth 100000 in
set_option maxHeartbeats 8000000 in
theorem works_any (w : World) : Calls Tryd.prog 8 #[] w fun e w' => e = .returned (.bool true) ∧ Below w.heap.size w w' := by
  have hnil : ∀ (p : Value) w, (binOp .eql 37 (.func (.func 28) #[] #[p]) .nilFunc).run Tryd.prog w = .ok (.bool false) w := fun _ _ => by kernel_rfl
  refine (callsIn_wide (n := 20)).1 ?_
  refine callsIn_of_wp_marks Tryd.func8 rfl trivial ?_ rfl
  simp only [Tryd.ntmps8, List.size_toArray, List.length_nil, Nat.reduceSub, Array.replicate_succ, Array.replicate_zero, List.push_toArray, List.append_toArray, List.nil_append, List.cons_append]
  refine (wpIn_wide (n := 20)).2 ?_
  go_wp2_with fail
  refine (row_a w).mono ?_
  rintro e w1 ⟨rfl, h1⟩
  go_wp2_with fail
  refine (row_b w1).mono ?_
  rintro e w2 ⟨rfl, h2⟩
  have h2 := h1.trans (h2.mono h1.size)
  clear h1
  go_wp2_with fail
  refine (row_c w2).mono ?_
  rintro e w3 ⟨rfl, h3⟩
  have h3 := h2.trans (h3.mono h2.size)
  clear h2
  go_wp2_with fail
  refine (row_d w3).mono ?_
  rintro e w4 ⟨rfl, h4⟩
  have h4 := h3.trans (h4.mono h3.size)
  clear h3
  go_wp2_with fail
  refine (row_rest w4).mono ?_
  rintro e w5 ⟨⟨v, rfl, hv⟩, h5⟩
  have h5 := h4.trans (h5.mono h4.size)
  clear h4
  obtain ⟨cs, hcs⟩ : ∃ cs, (bvs (List.replicate 129 0)).toArray = cs := ⟨_, rfl⟩
  have hmk : (Instr.makeSlice 22 (.int .i64 129) (.int .i64 129)).run Tryd.prog w5 = .ok (.slice (some ⟨w5.heap.size, 0, none⟩) 129 129) (w5.alloc (.cells cs 5)) := by rw [← hcs]; exact make_bytes 129 (by omega) w5
  go_wp2_with fail
  refine (row_long w5 cs).mono ?_
  rintro e w6 ⟨rfl, h6⟩
  have hv := hv.new h6
  have h65 := h6.size
  have h6 := h5.trans (h6.mono h5.size)
  clear h5 hmk hcs
  go_wp2_with fail
  have hB := row_bits (w6.alloc (.cells #[.int .i64 0] 3))
  rw [World.size_alloc] at hB
  refine hB.mono ?_
  clear hB
  rintro e w7 ⟨K, x, c, rfl, hK, hKb, hO, h7⟩
  go_wp2_with fail
  -- RANGE
  clear hnil
  have hn0 : Blk w7 w6.heap.size 3 #[.int .i64 (bn [] : Nat)] := by
    have h := Blk.new w6 3 #[.int .i64 (bn [] : Nat)]
    exact (h7.block _ (by omega)).trans h
  have hW : Below w6.heap.size w6 w7 := (balloc (Below.refl _ w6) _).trans (h7.mono (by omega))
  have hv7 := hv.new hW
  have hw7 := h6.trans (hW.mono h6.size)
  have hK7 := hKb.lt
  have hbl := (show Bto w7.heap.size w7 (.slice x 1 c) [5] from hO.bto)
  have hs7 := hW.size
  have hnl := hn0.lt
  have hsz := hw7.size
  have KeepB := Lib.hid (show ∀ X Y : World, Chg (fun k => k = w6.heap.size) X Y → Bto w7.heap.size X (.slice x 1 c) [5] → Bto w7.heap.size Y (.slice x 1 c) [5] from fun X Y hc h => by
    obtain ⟨h1, y, c', hy, h2, h3, h4⟩ := h
    refine ⟨h1, y, c', hy, h2, h3, fun hne => ?_⟩
    obtain ⟨b, o, e, hb, hx, hcells⟩ := h4 hne
    have hbW : w6.heap.size + 1 ≤ b := by
      rcases hO.2.2 with ⟨hv, hn⟩ | ⟨gg, cap, cur, hv, hbg, _⟩
      · exact (hne (List.eq_nil_of_length_eq_zero hn)).elim
      · injection hv with e1 e2 e3
        injection hy with f1 f2 f3
        rw [← f1, e1] at e
        injection e with e
        injection e with e
        omega
    refine ⟨b, o, e, hb, Nat.lt_of_lt_of_le hx hc.size, fun k u hk => ?_⟩
    rw [hc.cell (o + k) hx (by omega)]
    exact hcells k u hk)
  have hK6 : w6.heap.size + 1 ≤ K := hK
  have hw6 := h6.size
  clear hO h7 h6 hv hW
  refine (wpIn_wide (n := 20)).1 ?_
  refine wpIn_rangeW (n := 20) (by omega) (gf := 28) (lb := #[.pointer (some ⟨K, 0, none⟩)]) rfl (enters_of Tryd.func28 (by kernel_rfl) rfl)
    (bits_seq (20 - 1) 0 K w7.heap.size x c [5] (by omega) (by simp) (by simp) w7 (by omega)) (Below.refl _ _) (by omega) (fun _ => rfl)
    (fun (pre : List Bool) X => ((Blk X w6.heap.size 3 #[.int .i64 (bn pre : Nat)] ∧ Bto w5.heap.size X v [4]) ∧ (Blk X K 22 #[.slice x 1 c] ∧ Bto w7.heap.size X (.slice x 1 c) [5])) ∧ Chg (fun k => w.heap.size ≤ k) w X)
    (fun _ _ _ => False)
    ((((Abide.blk (by omega) _ (fun (pre : List Bool) => #[Value.int .i64 (bn pre : Nat)])).and (fun _ X Y row hs hg hr => hs.kept hg.size fun b hb hx => hg.block b hx (fun e => by have := hr b e.symm; omega))).and ((Abide.blk (by omega) _ (fun _ => _)).and (Abide.bto _ _))).and (Abide.chg (by omega)))
    (fun _ _ _ _ _ hs _ _ => hs) (fun pre X h => h.1.2)
    ⟨⟨⟨hn0, hv7⟩, hKb, hbl⟩, Chg.from hw7⟩
    (fun x1 a' _ => a' = { tmps := #[Value.bool false, Value.string { data := #[5] }, Value.bool true, Value.string { data := #[0] }, Value.bool true, Value.string { data := #[] }, Value.bool true, Value.string { data := #[0, 0] }, Value.bool true, v, Value.int IntKind.i64 0, Value.slice none 0 0, Value.int IntKind.i64 3, Value.pointer (some { block := w6.heap.size, off := 0 }), Value.func (.func 28) #[] #[Value.pointer (some { block := K, off := 0 })], Value.bool x1, Value.tuple #[Value.string { data := #[5] }, Value.bool true], Value.slice (some { block := w.heap.size, off := 0 }) 1 1, Value.slice (some { block := w.heap.size + 1, off := 0 }) 1 1, Value.slice (some { block := w.heap.size + 1 + 1, off := 0 }) 1 1, Value.tuple #[Value.string { data := #[5] }, Value.bool true], Value.string { data := #[5] }, Value.bool true, Value.tuple #[Value.string { data := #[0] }, Value.bool true], Value.slice (some { block := w1.heap.size, off := 0 }) 1 1, Value.slice (some { block := w1.heap.size + 1, off := 0 }) 1 1, Value.slice (some { block := w1.heap.size + 1 + 1, off := 0 }) 1 1, Value.tuple #[Value.string { data := #[0] }, Value.bool true], Value.string { data := #[0] }, Value.bool true, Value.tuple #[Value.string { data := #[] }, Value.bool true], Value.slice (some { block := w2.heap.size, off := 0 }) 1 1, Value.slice (some { block := w2.heap.size + 1, off := 0 }) 1 1, Value.tuple #[Value.string { data := #[] }, Value.bool true], Value.string { data := #[] }, Value.bool true, Value.tuple #[Value.string { data := #[0, 0] }, Value.bool true], Value.slice (some { block := w3.heap.size, off := 0 }) 1 1, Value.slice (some { block := w3.heap.size + 1, off := 0 }) 1 1, Value.slice (some { block := w3.heap.size + 1 + 1, off := 0 }) 2 2, Value.tuple #[Value.string { data := #[0, 0] }, Value.bool true], Value.string { data := #[0, 0] }, Value.bool true, Value.tuple #[v, Value.int IntKind.i64 0], Value.slice (some { block := w4.heap.size, off := 0 }) 2 2, Value.slice (some { block := w4.heap.size + 1, off := 0 }) 1 1, Value.tuple #[v, Value.int IntKind.i64 0], v, Value.int IntKind.i64 0, Value.tuple #[Value.slice none 0 0, Value.int IntKind.i64 3], Value.slice (some { block := w5.heap.size, off := 0 }) 129 129, Value.tuple #[Value.slice none 0 0, Value.int IntKind.i64 3], Value.slice none 0 0, Value.int IntKind.i64 3, Value.slice (some { block := w6.heap.size + 1, off := 0 }) 1 1, Value.func (.func 28) #[] #[Value.pointer (some { block := K, off := 0 })], Value.func (.func 28) #[] #[Value.pointer (some { block := K, off := 0 })], Value.bool false, Value.func (.func 28) #[] #[Value.pointer (some { block := K, off := 0 })], Value.bool x1, undef, undef, undef, undef, undef, undef, undef, undef, undef, undef, undef, undef, undef, undef, undef, undef, undef, undef, undef, undef, undef, undef, undef, undef, undef, undef, undef, undef, undef, undef, undef, undef, undef, undef, undef, undef, undef, undef, undef, undef, undef, undef, undef, undef, undef, undef, undef, undef, undef, undef, undef, undef, undef, undef, undef, undef, undef, undef, undef, undef, undef], defers := [] })
    (fun x a' _ X Y row hs hg hr => hs)
    ?assign ?body ?done ?stop
  case assign =>
    rintro l2 pre x1 X K2 _ hi hK2
    gi_wp2
    exact hK2 _ _ (Kept.refl _ _) (Below.refl _ _) hi rfl
  case body =>
    rintro l2 pre x1 a' X hl2 hpre _ ⟨⟨⟨hn, hv⟩, hKK, hBB⟩, hCh⟩ rfl
    have hb : bn pre < 100 := by
      obtain ⟨r, hr⟩ := hpre
      rw [show em (fb [5]) = [true, false, true] by decide] at hr
      match pre, hr with
      | [], _ => decide
      | [a], _ => cases a <;> decide
      | [a, b], _ => cases a <;> cases b <;> decide
      | a :: b :: c :: d, hr => simp at hr
    have hXn := hn.lt
    have put : ∀ (Z : World) (u u' : Int), Kept w7.heap.size X Z ∧ Below 0 X Z ∧ ((Blk Z w6.heap.size 3 #[.int .i64 u] ∧ Bto w5.heap.size Z v [4]) ∧ (Blk Z K 22 #[.slice x 1 c] ∧ Bto w7.heap.size Z (.slice x 1 c) [5])) ∧ Chg (fun k => w.heap.size ≤ k) w Z →
        Kept w7.heap.size X (Z.setCell ⟨w6.heap.size, 0, none⟩ (.int .i64 u')) ∧ Below 0 X (Z.setCell ⟨w6.heap.size, 0, none⟩ (.int .i64 u')) ∧ ((Blk (Z.setCell ⟨w6.heap.size, 0, none⟩ (.int .i64 u')) w6.heap.size 3 #[.int .i64 u'] ∧ Bto w5.heap.size (Z.setCell ⟨w6.heap.size, 0, none⟩ (.int .i64 u')) v [4]) ∧ (Blk (Z.setCell ⟨w6.heap.size, 0, none⟩ (.int .i64 u')) K 22 #[.slice x 1 c] ∧ Bto w7.heap.size (Z.setCell ⟨w6.heap.size, 0, none⟩ (.int .i64 u')) (.slice x 1 c) [5])) ∧ Chg (fun k => w.heap.size ≤ k) w (Z.setCell ⟨w6.heap.size, 0, none⟩ (.int .i64 u')) := fun Z u u' ⟨z1, z2, ⟨⟨z3, z4⟩, z5, z6⟩, z7⟩ => by
      have ch : Chg (fun k => k = w6.heap.size) Z (Z.setCell ⟨w6.heap.size, 0, none⟩ (.int .i64 u')) := (Chg.refl _ Z).set _ _ _ (fun _ => rfl)
      have hz := z1.1
      exact ⟨z1.trans ⟨ch.size, fun k hk hx => ch.block k hx (by omega)⟩, z2.trans (ch.below (Nat.zero_le _) (fun k hk => by omega)), ⟨⟨heap_setCell_same Z w6.heap.size 0 _ _ (.int .i64 u') z3, z4.kept ch.size (fun b hb hx => ch.block b hx (by omega))⟩, z5.chg ch (by omega), KeepB.out _ _ ch z6⟩, z7.trans ch (fun k hk e => by omega)⟩
    have P0 := put X (bn pre : Nat) ((2 * bn pre : Nat) : Int) ⟨Kept.refl _ _, Below.refl _ _, ⟨⟨hn, hv⟩, hKK, hBB⟩, hCh⟩
    have P1 := put _ _ ((2 * bn pre + 1 : Nat) : Int) P0
    have e0 := cell_of_row _ _ 0 _ _ _ hn
    have f0 := frozen_of_row _ _ 0 _ _ hn
    have e1 := cell_of_row _ _ 0 _ _ _ P0.2.2.1.1.1
    have f1 := frozen_of_row _ _ 0 _ _ P0.2.2.1.1.1
    have S0 := bn_snoc pre x1
    obtain ⟨m, hm⟩ : ∃ m, bn pre = m := ⟨_, rfl⟩
    rw [hm] at P0 P1 e0 e1 f1 S0 hb
    have g1 : IntKind.i64.wrap (2 * (m : Int)) = ((2 * m : Nat) : Int) := by rw [IntWalk.i64_in _ (by omega)]; omega
    obtain ⟨m2, hm2⟩ : ∃ q, 2 * m = q := ⟨_, rfl⟩
    rw [hm2] at P0 P1 e1 f1 S0 g1
    have g2 : IntKind.i64.wrap ((m2 : Int) + 1) = ((m2 + 1 : Nat) : Int) := by rw [IntWalk.i64_in _ (by omega)]; omega
    obtain ⟨m3, hm3⟩ : ∃ q, m2 + 1 = q := ⟨_, rfl⟩
    rw [hm3] at P1 g2
    have hS := Lib.hid (And.intro S0 (And.intro P0 (And.intro P1 hm3)))
    clear S0 P0 P1 put hn hv hKK hBB hCh hb hm hm2 hm3 hpre
    cases x1
    · gi_wp2_with fail
      obtain ⟨p1, p2, ⟨⟨p3, p4⟩, p5⟩, p6⟩ := hS.out.2.1
      exact ⟨p1, p2, ⟨⟨by rw [show bn (pre ++ [false]) = m2 by rw [hS.out.1]; rfl]; exact p3, p4⟩, p5⟩, p6⟩
    · gi_wp2_with fail
      obtain ⟨p1, p2, ⟨⟨p3, p4⟩, p5⟩, p6⟩ := hS.out.2.2.1
      exact ⟨p1, p2, ⟨⟨by rw [show bn (pre ++ [true]) = m3 by rw [hS.out.1, ← hS.out.2.2.2]; rfl]; exact p3, p4⟩, p5⟩, p6⟩
  case done =>
    rintro D xs X hD rfl ⟨⟨⟨hn, hv⟩, hKK, hBB⟩, hCh⟩ hKD
    rename_i K1 hK1
    refine hK1 _ _ ?_
    clear hK1 K1
    rw [show bn (em (fb [5])) = 5 by decide] at hn
    have HX := Lib.hid (And.intro hn (And.intro hv (And.intro hCh hKD)))
    clear hn hv hKK hBB hCh hKD
    have hcv : (convert 22 9 v).run Tryd.prog X = .ok (.string ⟨#[4]⟩) X := conv_byteso w5.heap.size v [4] X HX.out.2.1 (by simp)
    have HCN := Lib.hid (show ∀ w', Below X.heap.size X w' → w'.cell? ⟨w6.heap.size, 0, none⟩ = some (.int .i64 5) from fun w' h => cell_of_row _ _ 0 _ _ _ (HX.out.1.keep h))
    have hWD : w.heap.size ≤ D := Nat.le_trans hsz hD
    have HW := Lib.hid hWD
    clear hWD h2 h3 h4 h5 hv h6 h65 hK hKb hn0 hv7 hw7 hK7 hbl hs7 hnl hsz KeepB hK6 hw6 hD
    go_wp2_with (first | (go_at_call 12; refine (num_any _ _).mono ?_; rintro e wk ⟨rfl, hk⟩; subst hk) | (go_at_call 16; refine (row_order _).mono ?_; rintro e w8 ⟨rfl, hk8⟩) | (go_at_call 18; refine (row_len _).mono ?_; rintro e w9 ⟨rfl, hk9⟩; have hB9 : Below X.heap.size X w9 := rstep hk9 hk8; have hcn := HCN.out _ hB9) | fail)
    have hDl : D < X.heap.size := (Array.getElem?_eq_some_iff.1 HX.out.2.2.2).1
    have HE := Lib.hid (And.intro ((hB9.block D hDl).trans HX.out.2.2.2) (rstep hB9 (HX.out.2.2.1.below (Nat.le_refl _) (fun k hk h => by omega))))
    refine ⟨by simp, .inl ⟨_, _, rfl, run_takeDeferred HE.out.1, ?_⟩⟩
    exact ⟨_, results_tmp rfl _ _ _, rfl, HE.out.2.trans (below_put _ _ HW.out)⟩
  case stop =>
    rintro D pre x1 a' X hD hs
    exact hs.elim
end Go.Proofs.YtjkniebedgiclaaDoor
