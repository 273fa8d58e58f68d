/- power's law: PowerHolds: the walk. -/
import Derived.Test.YtidpekcegocjfaaDoorEl
import Derived.Test.YtidpekcegocjfaaDoorUb
namespace Go.Proofs.YtidpekcegocjfaaDoor
open Go.RowKit Go.Shelf
attribute [local go_sem] ix0 ix1 ix2 ix3
theorem sqF_pow (a n : Nat) (hn : n < 2 ^ 256) : ∀ k, k ≤ 256 → sqF a (fun j => n.testBit (255 - j)) 1 k = a ^ (n / 2 ^ (256 - k))
  | 0, _ => by rw [sqF_zero, Nat.div_eq_of_lt (by simpa using hn), Nat.pow_zero]
  | k + 1, hk => by
    have h1 : n / 2 ^ (256 - k) = n / 2 ^ (255 - k) / 2 := by
      rw [show 256 - k = (255 - k) + 1 by omega, Nat.pow_succ, Nat.div_div_eq_div_mul]
    have h2 : n.testBit (255 - k) = (n / 2 ^ (255 - k) % 2 == 1) := by rw [Nat.testBit_eq_decide_div_mod_eq]; rfl
    rw [sqF_succ, sqF_pow a n hn k (by omega), h1, h2, show 256 - (k + 1) = 255 - k by omega]
    generalize n / 2 ^ (255 - k) = q
    rcases (show q % 2 = 0 ∨ q % 2 = 1 by omega) with h | h
    · rw [h]
      show sq1 a (a ^ (q / 2)) false = a ^ q
      rw [sq1_f, ← Nat.pow_add, show q / 2 + q / 2 = q by omega]
    · rw [h]
      show sq1 a (a ^ (q / 2)) true = a ^ q
      rw [sq1_t, ← Nat.pow_add, ← Nat.pow_succ, show (q / 2 + q / 2).succ = q by omega]
theorem pwN_pow (a n : Nat) (hn : n < 2 ^ 256) : pwN a n = a ^ n := by
  unfold pwN
  rw [sqF_pow a n hn 256 (Nat.le_refl _), Nat.sub_self, Nat.pow_zero, Nat.div_one]
theorem sq_bits (a n : Nat) (hn : n < 2 ^ 256) : sqF a (fun j => n.testBit (255 - j)) 1 256 = a ^ n := by
  rw [sqF_pow a n hn 256 (Nat.le_refl _), Nat.sub_self, Nat.pow_zero, Nat.div_one]
theorem info_bool : (Tryd.prog.info? 4).map (fun i => (i.zero, i.size, i.bytes)) = some (some (.bool false), 1, 1) := by kernel_rfl
/-- The number's bits so far, the highest first, as cells. -/
def tbC (x k : Nat) : List Value := (List.range k).map fun j => Value.bool (x.testBit (255 - j))
theorem tbC_len (x k : Nat) : (tbC x k).length = k := by unfold tbC; simp
theorem tbC_zero (x : Nat) : tbC x 0 = [] := rfl
theorem tbC_succ (x k : Nat) : tbC x (k + 1) = tbC x k ++ [.bool (x.testBit (255 - k))] := by unfold tbC; rw [List.range_succ, List.map_append]; rfl
theorem tbC_get (x k j : Nat) (hj : j < k) : (tbC x k)[j]? = some (.bool (x.testBit (255 - j))) := by unfold tbC; simp [hj]
attribute [local irreducible] lb pwN wdN sqF tbC
set_option maxRecDepth 100000 in
set_option maxHeartbeats 4000000 in
theorem pholds_walk (a x y : Nat) (hx : x < 2 ^ 32) (hy : y < 2 ^ 32) (w : World) (hT : TZ w) :
    Calls Tryd.prog 5 #[W a, .int .u32 x, .int .u32 y] w fun e w' => e = .returned (.bool true) ∧ Below w.heap.size w w' := by
  obtain ⟨i0, hi, hz0, hz1, hz2⟩ := info_parts info_bool
  have hu : Tryd.prog.underlying 30 = some (.slice 4) := by kernel_rfl
  have HT := Lib.hid hT
  have HXY := Lib.hid (And.intro hx hy)
  have hx1 : IntKind.u64.wrap (x : Int) = (x : Int) := IntWalk.u64_in _ (by omega)
  have hy1 : IntKind.u64.wrap (y : Int) = (y : Int) := IntWalk.u64_in _ (by omega)
  have k0 := Blk.new w 24 (Wc a)
  have hW := balloc (Below.refl w.heap.size w) (.cells (Wc a) 24)
  have H := Lib.hid (And.intro k0 hW)
  clear hT hx hy k0 hW
  go_enter Tryd.func5, Tryd.ntmps5
  go_wp2_with fail
  refine (rof_any x (Nat.lt_trans HXY.out.1 (by decide)) _).mono ?_
  rintro e w1 ⟨rfl, h1⟩
  have H1 := Lib.hid (And.intro (H.out.1.keep h1) (bstep H.out.2 h1))
  clear H h1
  go_wp2_with fail
  refine (rof_any y (Nat.lt_trans HXY.out.2 (by decide)) _).mono ?_
  rintro e w2 ⟨rfl, h2⟩
  have k0 := ((H1.out.1.keep h2).alloc (.cells (Wc x) 24)).alloc (.cells (Wc y) 24)
  have k1 := (Blk.new w2 24 (Wc x)).alloc (.cells (Wc y) 24)
  have k2 := Blk.newS w2 (.cells (Wc x) 24) 24 (Wc y)
  have hW := balloc (balloc (bstep H1.out.2 h2) (.cells (Wc x) 24)) (.cells (Wc y) 24)
  have hg : w.heap.size < w2.heap.size := (H1.out.1.keep h2).lt
  clear H1 h2 hx1 hy1
  go_upto_region 2 with fail
  obtain ⟨W2, hW2⟩ : ∃ W2, (w2.alloc (.cells (Wc x) 24)).alloc (.cells (Wc y) 24) = W2 := ⟨_, rfl⟩
  rw [hW2] at k0 k1 k2 hW ⊢
  clear hW2
  generalize w2.heap.size = gx at k1 k2 hg ⊢
  have HX := Lib.hid (And.intro k0 (And.intro k1 (And.intro k2 hW)))
  clear k0 k1 k2 hW
  go_wp2_with fail
  go_loopw [9, 10] (fun v i wr => ∃ k : Nat, k ≤ 256 ∧ i = .int .i64 (255 - (k : Int)) ∧ wr.ownsRow (gx + 2) 4 1 v k (tbC x k) ∧ Blk wr w.heap.size 24 (Wc a) ∧ Blk wr gx 24 (Wc x) ∧ Blk wr (gx + 1) 24 (Wc y) ∧ Below w.heap.size w wr) (fun _ i _ => (intOf i + 1).toNat)
  case atStart => exact ⟨0, by omega, rfl, by rw [tbC_zero]; exact ⟨rfl, .inl ⟨rfl, rfl⟩⟩, HX.out.1, HX.out.2.1, HX.out.2.2.1, HX.out.2.2.2⟩
  case round =>
    clear HX
    obtain ⟨k, hk, rfl, hown, A, X1, Y1, hB⟩ := hrel
    by_cases hlt : k < 256
    · have g0 : (0 : Int) ≤ 255 - (k : Int) := by omega
      have g1 : (255 : Int) - (k : Int) = ((255 - k : Nat) : Int) := by omega
      have g2 : IntKind.i64.wrap ((255 : Int) - (k : Int) - 1) = 255 - (k : Int) - 1 := IntWalk.i64_in _ (by omega)
      have HG1 := Lib.hid g1
      have hbit := rbit_any x (255 - k) (by omega)
      obtain ⟨t, ht⟩ : ∃ t, x.testBit (255 - k) = t := ⟨_, rfl⟩
      have hb2 : (x / 2 ^ (255 - k) % 2 == 1) = t := by rw [← ht, Nat.testBit_eq_decide_div_mod_eq]; rfl
      rw [hb2] at hbit
      have HBIT := Lib.hid hbit
      have HTT := Lib.hid ht
      obtain ⟨a0, a1, a2, a3, _, _, _, _⟩ := X1.get4
      have HX := Lib.hid (And.intro hown (And.intro A (And.intro X1 (And.intro Y1 hB))))
      clear hown A X1 Y1 hB hbit ht hb2 g1
      go_wp2_with fail
      rw [HG1.out]
      refine (HBIT.out _).mono ?_
      rw [← HG1.out]
      rintro e w1 ⟨rfl, h1⟩
      obtain ⟨hown, A, X1, Y1, hB⟩ := HX.out
      have hown1 := owns_below hown h1
      have HX1 := Lib.hid (And.intro (A.keep h1) (And.intro (X1.keep h1) (And.intro (Y1.keep h1) (bstep hB h1))))
      have hgr := (bstep hB h1).size
      have hal := (Y1.keep h1).lt
      clear HX hown A X1 Y1 hB h1 HBIT a0 a1 a2 a3
      have HH := Lib.hid hgr
      go_wp2_with (first
        | (at_builtin; refine wpList_append_own _ rfl _ _ 30 rfl (gx + 2) 4 i0 (.bool false) 1 1 hu hi hz0 hz1 hz2 rfl (by decide) _ _ _ rfl (hown1.alloc _) ⟨w1.heap.size, 0, none⟩ 1 1 [.bool t] rfl rfl ?c1 ?c2 ?c3 ?c4 ?c5 ?_)
        | fail)
      case c1 =>
        intro j v hj
        have hN := Blk.new w1 4 #[.bool t]
        rcases j with _ | j
        · simp at hj; subst hj; exact cell_of_row _ _ 0 _ _ _ hN
        · simp at hj
      case c2 => exact fun u hu => by simp at hu; subst hu; rfl
      case c3 => unfold maxLen; omega
      case c4 => omega
      case c5 => simp; omega
      intro v' w3 hown2 hgrow _
      obtain ⟨A, X1, Y1, hB⟩ := HX1.out
      have A1 := box_kept (hown1.alloc _) hgrow (by omega) (A.alloc _)
      have X2 := box_kept (hown1.alloc _) hgrow (by omega) (X1.alloc _)
      have Y2 := box_kept (hown1.alloc _) hgrow (by omega) (Y1.alloc _)
      have hW1 := world_kept (hown1.alloc _) hgrow (balloc hB _) (Nat.le_refl _) (by omega)
      have HO := Lib.hid hown2
      have HY := Lib.hid (And.intro A1 (And.intro X2 (And.intro Y2 hW1)))
      clear hown1 hown2 hgrow A X1 Y1 hB HX1 A1 X2 Y2 hW1 hi hz0 hz1 hz2 hu
      go_wp2_with fail
      go_roundw
      case rel => exact ⟨k + 1, by omega, by congr 1; omega, by rw [tbC_succ, HTT.out]; exact HO.out, HY.out⟩
      case measure => simp [intOf]; omega
    · obtain rfl : k = 256 := by omega
      clear hi hz0 hz1 hz2 hu
      have hxM : x < 2 ^ 256 := Nat.lt_trans HXY.out.1 (by decide)
      have hyM : y < 2 ^ 256 := Nat.lt_trans HXY.out.2 (by decide)
      have hsM : x + y < 2 ^ 256 := Nat.lt_of_lt_of_le (Nat.add_lt_add HXY.out.1 HXY.out.2) (by decide)
      have hmM : x * y < 2 ^ 256 := Nat.lt_of_lt_of_le (Nat.mul_lt_mul'' HXY.out.1 HXY.out.2) (by decide)
      have h2M : 2 < 2 ^ 256 := by decide
      have hMM : MM = 2 ^ 256 := by decide +kernel
      have hTX : ∀ X, Below wr.heap.size wr X → TZ X := fun X h => HT.out.below HT.out.lt (bstep hB h)
      have hex : ∀ b n, n < 2 ^ 256 → ∀ X, Below wr.heap.size wr X → Calls Tryd.prog 6 #[W b, W n] X fun e w' => e = .returned (W (b ^ n)) ∧ Below X.heap.size X w' := fun b n hn X h => by
        rw [← pwN_pow b n hn]; exact exp_pw b n (by rw [hMM]; exact hn) X (hTX X h)
      obtain ⟨y', cap', hv, hy'⟩ := owns_slice hown
      subst hv
      obtain ⟨g, rfl, hgb, hgl⟩ := hy' (by omega)
      have hcells : ∀ j, j < 256 → wr.cell? ⟨g, 0 + j, none⟩ = some (.bool (x.testBit (255 - j))) := fun j hj => by
        have h1 := hown.cells (g := g) rfl j (.bool (x.testBit (255 - j))) (tbC_get x 256 j hj)
        rw [Go.WideShapes.add_plain] at h1
        exact h1
      have hsq : ∀ X, Below wr.heap.size wr X → Calls Tryd.prog 14 #[W a, .slice (some ⟨g, 0, none⟩) 256 cap'] X fun e w' => e = .returned (W (a ^ x)) ∧ Below X.heap.size X w' := fun X h => by
        rw [← sq_bits a x hxM]
        exact squares_any a g 0 256 cap' (fun j => x.testBit (255 - j)) X (by omega) (Nat.lt_of_lt_of_le hgl h.size) fun j hj => (h.cell (p := ⟨g, 0 + j, none⟩) hgl).trans (hcells j hj)
      have hc3 := hex a (x + y) hsM
      have hc5 := hex a (x * y) hmM
      have hc6 := hex a 2 h2M
      have hc1 := hex a x hxM
      have hc2 := hex a y hyM
      rw [Nat.pow_add] at hc3
      rw [Nat.pow_mul] at hc5
      rw [show a ^ 2 = a * a by rw [Nat.pow_succ, Nat.pow_one]] at hc6
      have hc4 := hex (a ^ x) y hyM
      have hm1 := fun X => rmul_any (a ^ x) (a ^ y) X
      have hm2 := fun X => rmul_any x y X
      have hm3 := fun X => rmul_any a a X
      have had := fun X => radd_any x y X
      obtain ⟨p1, hp1⟩ : ∃ p, a ^ x = p := ⟨_, rfl⟩
      rw [hp1] at hc1 hc3 hc4 hc5 hm1 hsq
      obtain ⟨p2, hp2⟩ : ∃ p, a ^ y = p := ⟨_, rfl⟩
      rw [hp2] at hc2 hc3 hm1
      obtain ⟨q1, hq1⟩ : ∃ p, p1 ^ y = p := ⟨_, rfl⟩
      rw [hq1] at hc4 hc5
      obtain ⟨s1, hs1⟩ : ∃ p, p1 * p2 = p := ⟨_, rfl⟩
      rw [hs1] at hc3 hm1
      obtain ⟨t1, ht1⟩ : ∃ p, a * a = p := ⟨_, rfl⟩
      rw [ht1] at hc6 hm3
      obtain ⟨z1, hz1⟩ : ∃ p, x + y = p := ⟨_, rfl⟩
      rw [hz1] at hc3 had
      obtain ⟨z2, hz2⟩ : ∃ p, x * y = p := ⟨_, rfl⟩
      rw [hz2] at hc5 hm2
      have C1 := Lib.hid hc1
      have C2 := Lib.hid hc2
      have C3 := Lib.hid hc3
      have C4 := Lib.hid hc4
      have C5 := Lib.hid hc5
      have C6 := Lib.hid hc6
      have M1 := Lib.hid hm1
      have M2 := Lib.hid hm2
      have M3 := Lib.hid hm3
      have AD := Lib.hid had
      have SQ := Lib.hid hsq
      have WK := Lib.hid (fun X (h : Below wr.heap.size wr X) => pworks_any X (hTX X h))
      have O2 := Lib.hid (fun X => rof_any 2 (by decide) X)
      have ca0 : ∀ w', Below wr.heap.size wr w' → w'.cell? ⟨w.heap.size, 0, none⟩ = some (.int .u64 (lb a 0)) := fun w' h => (A.keep h).get4.1
      have ca1 : ∀ w', Below wr.heap.size wr w' → w'.cell? ⟨w.heap.size, 1, none⟩ = some (.int .u64 (lb a 1)) := fun w' h => (A.keep h).get4.2.1
      have ca2 : ∀ w', Below wr.heap.size wr w' → w'.cell? ⟨w.heap.size, 2, none⟩ = some (.int .u64 (lb a 2)) := fun w' h => (A.keep h).get4.2.2.1
      have ca3 : ∀ w', Below wr.heap.size wr w' → w'.cell? ⟨w.heap.size, 3, none⟩ = some (.int .u64 (lb a 3)) := fun w' h => (A.keep h).get4.2.2.2.1
      have cx0 : ∀ w', Below wr.heap.size wr w' → w'.cell? ⟨gx, 0, none⟩ = some (.int .u64 (lb x 0)) := fun w' h => (X1.keep h).get4.1
      have cx1 : ∀ w', Below wr.heap.size wr w' → w'.cell? ⟨gx, 1, none⟩ = some (.int .u64 (lb x 1)) := fun w' h => (X1.keep h).get4.2.1
      have cx2 : ∀ w', Below wr.heap.size wr w' → w'.cell? ⟨gx, 2, none⟩ = some (.int .u64 (lb x 2)) := fun w' h => (X1.keep h).get4.2.2.1
      have cx3 : ∀ w', Below wr.heap.size wr w' → w'.cell? ⟨gx, 3, none⟩ = some (.int .u64 (lb x 3)) := fun w' h => (X1.keep h).get4.2.2.2.1
      have cy0 : ∀ w', Below wr.heap.size wr w' → w'.cell? ⟨gx + 1, 0, none⟩ = some (.int .u64 (lb y 0)) := fun w' h => (Y1.keep h).get4.1
      have cy1 : ∀ w', Below wr.heap.size wr w' → w'.cell? ⟨gx + 1, 1, none⟩ = some (.int .u64 (lb y 1)) := fun w' h => (Y1.keep h).get4.2.1
      have cy2 : ∀ w', Below wr.heap.size wr w' → w'.cell? ⟨gx + 1, 2, none⟩ = some (.int .u64 (lb y 2)) := fun w' h => (Y1.keep h).get4.2.2.1
      have cy3 : ∀ w', Below wr.heap.size wr w' → w'.cell? ⟨gx + 1, 3, none⟩ = some (.int .u64 (lb y 3)) := fun w' h => (Y1.keep h).get4.2.2.2.1
      have hs0 : Below wr.heap.size wr wr.drew := (Below.refl _ _).drew
      have heq := eq_sameW
      have HW := Lib.hid hB
      clear hxM hyM hsM hmM h2M hMM hTX hex hcells hsq hc1 hc2 hc3 hc4 hc5 hc6 hm1 hm2 hm3 had hp1 hp2 hq1 hs1 ht1 hz1 hz2 A X1 Y1 hB hgb hgl hy' hg hown HT HXY
      go_wp2_with fail
      go_region_held3 (fun w' => Below wr.heap.size wr w') (first | assumption | exact rstep (by assumption) (by assumption))
        (first
          | (go_at_call 6; (first | with_reducible refine (C1.out _ (by assumption)).mono ?_ | with_reducible refine (C2.out _ (by assumption)).mono ?_ | with_reducible refine (C3.out _ (by assumption)).mono ?_ | with_reducible refine (C4.out _ (by assumption)).mono ?_ | with_reducible refine (C5.out _ (by assumption)).mono ?_ | with_reducible refine (C6.out _ (by assumption)).mono ?_); rintro e wk ⟨rfl, hk⟩)
          | (go_at_call 13; (first | with_reducible refine (M1.out _).mono ?_ | with_reducible refine (M2.out _).mono ?_ | with_reducible refine (M3.out _).mono ?_); rintro e wk ⟨rfl, hk⟩)
          | (go_at_call 17; refine (AD.out _).mono ?_; rintro e wk ⟨rfl, hk⟩)
          | (go_at_call 12; refine (O2.out _).mono ?_; rintro e wk ⟨rfl, hk⟩)
          | (go_at_call 14; refine (SQ.out _ (by assumption)).mono ?_; rintro e wk ⟨rfl, hk⟩)
          | (go_at_call 10; refine (WK.out _ (by assumption)).mono ?_; rintro e wk ⟨rfl, hk⟩))
      all_goals
        have hX : Below wr.heap.size wr wk := by assumption
        have HE := Lib.hid (bstep HW.out hX)
        go_wp2
        go_ret
        exact ⟨rfl, HE.out⟩
end Go.Proofs.YtidpekcegocjfaaDoor
