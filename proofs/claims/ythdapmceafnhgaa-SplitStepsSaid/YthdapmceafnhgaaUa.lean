/- split's reference: Steps; how long Euclid's way is at most. -/
import Derived.Test.YthdapmceafnhgaaTr
import Derived.Test.YthdapmceafnhgaaTi
import Derived.WalkKit
import Derived.Deep.LoopGhost
namespace Go.Proofs.Ythdapmceafnhgaa
open Go.RowKit Go.Shelf
attribute [local go_sem] ix0 ix1 ix2 ix3
theorem eu_half (a b : Nat) : ∀ j, (∀ i, i < 2 * j + 1 → eu a b i ≠ 0) → eu a b (2 * j + 1) * 2 ^ j ≤ b
  | 0, _ => by rw [Nat.pow_zero, Nat.mul_one]; exact Nat.le_refl _
  | j + 1, h => by
    have ih := eu_half a b j (fun i hi => h i (by omega))
    have hx : eu a b (2 * j + 1) ≠ 0 := h _ (by omega)
    have hy : eu a b (2 * j + 2) ≠ 0 := h _ (by omega)
    have ey : eu a b (2 * j + 2) = eu a b (2 * j) % eu a b (2 * j + 1) := by
      show mdN _ _ = _
      unfold mdN
      rw [if_neg hx]
    have ez : eu a b (2 * (j + 1) + 1) = eu a b (2 * j + 1) % eu a b (2 * j + 2) := by
      show mdN (eu a b (2 * j + 1)) (eu a b (2 * j + 2)) = _
      unfold mdN
      rw [if_neg hy]
    have hlt : eu a b (2 * j + 2) < eu a b (2 * j + 1) := by rw [ey]; exact Nat.mod_lt _ (by omega)
    rw [ez]
    generalize eu a b (2 * j + 1) = x at *
    generalize eu a b (2 * j + 2) = y at *
    have h1 : x % y < y := Nat.mod_lt _ (by omega)
    have h2 : x % y + y ≤ x := by
      have h3 := Nat.div_add_mod x y
      have h4 : 1 ≤ x / y := (Nat.le_div_iff_mul_le (by omega)).2 (by omega)
      have h5 : y ≤ y * (x / y) := Nat.le_mul_of_pos_right _ (by omega)
      omega
    have h6 : x % y * 2 ≤ x := by omega
    calc x % y * 2 ^ (j + 1) = x % y * 2 * 2 ^ j := by rw [Nat.pow_succ, Nat.mul_comm (2 ^ j) 2, Nat.mul_assoc]
      _ ≤ x * 2 ^ j := Nat.mul_le_mul_right _ h6
      _ ≤ b := ih
/-- Euclid's way is short. -/
theorem eu_few (a b k : Nat) (hb : b < MM) (h : ∀ i, i < k → eu a b i ≠ 0) : k ≤ 600 := by
  refine Classical.byContradiction fun hk => ?_
  have h1 := eu_half a b 256 (fun i hi => h i (by omega))
  have h2 : eu a b (2 * 256 + 1) ≠ 0 := h _ (by omega)
  have h3 : MM = 2 ^ 256 := by decide +kernel
  have h4 : 1 * 2 ^ 256 ≤ eu a b (2 * 256 + 1) * 2 ^ 256 := Nat.mul_le_mul_right _ (by omega)
  omega
/-- The words of the way, as cells. -/
def fw (a b : Nat) : Nat → List Value
  | 0 => []
  | k + 1 => fw a b k ++ (Wc (eu a b k)).toList
theorem fw_length (a b : Nat) : ∀ k, (fw a b k).length = k * 4
  | 0 => rfl
  | k + 1 => by rw [fw, List.length_append, fw_length a b k]; show _ + 4 = _; omega
theorem info_w : (Try.prog.info? 24).map (fun i => (i.zero, i.size, i.bytes)) = some (some (.agg #[.int .u64 0, .int .u64 0, .int .u64 0, .int .u64 0]), 4, 32) := by kernel_rfl
theorem neqW2 (x y : Nat) (w : World) : (binOp .neq 24 (W x) (W y)).run Try.prog w = .ok (.bool (!(x % MM == y % MM))) w := by
  obtain ⟨i, hi⟩ := Option.isSome_iff_exists.1 info_u64
  have h := run_neq_ints (show Try.prog.underlying 24 = some (.array 4 22) by kernel_rfl) (k := .u64) (by kernel_rfl) hi (by kernel_rfl) (Wc x) (Wc y) (lb x) (lb y)
    (fun j hj => by match j, hj with | 0, _ | 1, _ | 2, _ | 3, _ => exact ⟨rfl, rfl⟩) w
  rw [h]
  refine congrArg (fun c => Result.ok (Value.bool (!c)) w) ?_
  rw [Bool.eq_iff_iff]
  simp only [List.all_eq_true, List.mem_range, beq_iff_eq]
  rw [← lb_eq_iff]
  exact ⟨fun h => ⟨h 0 (by omega), h 1 (by omega), h 2 (by omega), h 3 (by omega)⟩, fun h j hj => by match j, hj with | 0, _ => exact h.1 | 1, _ => exact h.2.1 | 2, _ => exact h.2.2.1 | 3, _ => exact h.2.2.2⟩
theorem neq_nought (x : Nat) (hx : x < MM) (w : World) : (binOp .neq 24 (W x) (.agg #[.int .u64 0, .int .u64 0, .int .u64 0, .int .u64 0])).run Try.prog w = .ok (.bool (x != 0)) w := by
  have h := neqW2 x 0 w
  rw [W_zero, Nat.mod_eq_of_lt hx, Nat.zero_mod] at h
  exact h
theorem owns_below {X Y : World} {base : Nat} {e : TypeId} {size : Nat} {v : Value} {n : Nat} {xs : List Value} (h : X.ownsRow base e size v n xs) (hb : Below X.heap.size X Y) : Y.ownsRow base e size v n xs := by
  refine ⟨h.1, ?_⟩
  rcases h.2 with hn | ⟨g, cap, cur, hv, hbg, hg, r⟩
  · exact .inl hn
  · exact .inr ⟨g, cap, cur, hv, hbg, (hb.block g (Array.getElem?_eq_some_iff.1 hg).1).trans hg, r⟩
theorem owns_mono {X : World} {base base' : Nat} {e : TypeId} {size : Nat} {v : Value} {n : Nat} {xs : List Value} (h : X.ownsRow base e size v n xs) (hb : base' ≤ base) : X.ownsRow base' e size v n xs := by
  refine ⟨h.1, ?_⟩
  rcases h.2 with hn | ⟨g, cap, cur, hv, hbg, r⟩
  · exact .inl hn
  · exact .inr ⟨g, cap, cur, hv, Nat.le_trans hb hbg, r⟩
/-- What the append leaves of the two boxes. -/
theorem box_kept {X Y : World} {base g : Nat} {e t : TypeId} {size : Nat} {v : Value} {n : Nat} {xs : List Value} {cs : Array Value} (h : X.ownsRow base e size v n xs) (hG : X.grownBy Y v.ownBlock) (hg : g < base) (hB : Blk X g t cs) : Blk Y g t cs :=
  hB.kept hG (fun e => by have h1 := (h.lt g e.symm).1; omega)
theorem world_kept {w X Y : World} {base n0 : Nat} {e : TypeId} {size : Nat} {v : Value} {n : Nat} {xs : List Value} (h : X.ownsRow base e size v n xs) (hG : X.grownBy Y v.ownBlock) (hb : Below n0 w X) (hn : n0 ≤ w.heap.size) (hn0 : n0 ≤ base) : Below n0 w Y := by
  exact hb.grown hG (Nat.le_trans hn hb.size) (fun k e => Nat.le_trans hn0 (h.lt k e).1)

set_option maxHeartbeats 2000000 in
theorem rsteps_any (a b : Nat) (ha : a < MM) (hb : b < MM) (w : World) :
    Calls Try.prog 4 #[W a, W b] w fun e w' => ∃ v N, e = .returned v ∧ eu a b N = 0 ∧ (∀ i, i < N → eu a b i ≠ 0) ∧ w'.ownsRow w.heap.size 24 4 v N (fw a b N) ∧ Below w.heap.size w w' := by
  have A : Blk ((w.alloc (.cells (Wc a) 24)).alloc (.cells (Wc b) 24)) w.heap.size 24 (Wc a) := (Blk.new _ _ _).alloc _
  have B : Blk ((w.alloc (.cells (Wc a) 24)).alloc (.cells (Wc b) 24)) (w.heap.size + 1) 24 (Wc b) := Blk.newS w _ _ _
  have hW : Below w.heap.size w ((w.alloc (.cells (Wc a) 24)).alloc (.cells (Wc b) 24)) := balloc (balloc (Below.refl _ _) _) _
  obtain ⟨i0, hi, hz0, hz1, hz2⟩ := info_parts info_w
  go_enter Try.func4, Try.ntmps4
  go_wp2_with fail
  obtain ⟨W0, hW0⟩ : ∃ W0, (w.alloc (.cells (Wc a) 24)).alloc (.cells (Wc b) 24) = W0 := ⟨_, rfl⟩
  rw [hW0] at A B hW ⊢
  clear hW0
  go_loopg [5] 601 (fun c v wr => ∃ k, c + k = 601 ∧ (∀ i, i < k → eu a b i ≠ 0) ∧ wr.ownsRow (w.heap.size + 2) 24 4 v k (fw a b k) ∧ Blk wr w.heap.size 24 (Wc (eu a b k)) ∧ Blk wr (w.heap.size + 1) 24 (Wc (eu a b (k + 1))) ∧ Below w.heap.size w wr)
  case atStart => exact ⟨0, rfl, fun i hi => by omega, World.ownsRow_nil _ _ _ _, A, B, hW⟩
  case round =>
    obtain ⟨k, hk, hnz, hown, A, B, hW⟩ := hrel
    have hkf := eu_few a b k hb hnz
    obtain ⟨c, rfl⟩ : ∃ c, gk = c + 1 := ⟨gk - 1, by omega⟩
    have hlt := eu_lt a b ha hb
    have hq := fun w => neq_nought (eu a b k) (hlt k) w
    have a0 := (cell_of_row wr _ 0 _ _ _ A).trans (wc_get _ 0 (by omega))
    have a1 := (cell_of_row wr _ 1 _ _ _ A).trans (wc_get _ 1 (by omega))
    have a2 := (cell_of_row wr _ 2 _ _ _ A).trans (wc_get _ 2 (by omega))
    have a3 := (cell_of_row wr _ 3 _ _ _ A).trans (wc_get _ 3 (by omega))
    by_cases h0 : eu a b k = 0
    · have hq0 : (eu a b k != 0) = false := by simp [h0]
      rw [hq0] at hq
      have HX := Lib.hid (And.intro h0 (And.intro hnz (And.intro (owns_mono hown (show w.heap.size ≤ w.heap.size + 2 by omega)) hW)))
      clear h0 hnz hown A B hW hlt hq0
      go_wp2
      exact bodyPost_ret (v := u5) (by simp [results, Try.results4, go_sem]) rfl ⟨u5, k, rfl, HX.out.1, HX.out.2.1, HX.out.2.2.1, HX.out.2.2.2⟩
    · have hq0 : (eu a b k != 0) = true := by simp [h0]
      rw [hq0] at hq
      have hu : Try.prog.underlying 25 = some (.slice 24) := by kernel_rfl
      have HN := Lib.hid (And.intro h0 (And.intro hnz hlt))
      have HB := Lib.hid (And.intro A (And.intro B hW))
      have hsz := B.lt
      clear h0 hnz A B hW hlt hq0
      go_wp2_with (first
        | (at_builtin; refine wpList_append_own _ rfl _ _ 25 rfl (w.heap.size + 2) 24 i0 (.agg #[.int .u64 0, .int .u64 0, .int .u64 0, .int .u64 0]) 4 32 hu hi hz0 hz1 hz2 rfl (by decide) _ _ _ rfl (hown.alloc _) ⟨wr.heap.size, 0, none⟩ 1 1 (Wc (eu a b k)).toList rfl rfl ?c1 ?c2 ?c3 ?c4 ?c5 ?_)
        | fail)
      case c2 => exact ⟨rfl, rfl, rfl, rfl⟩
      case c3 => unfold maxLen; omega
      case c4 => omega
      case c5 => simp; omega
      intro v' w1 hown1 hgrow _
      obtain ⟨A, B, hW⟩ := HB.out
      have A1 := box_kept (hown.alloc _) hgrow (by omega) (A.alloc _)
      have B1 := box_kept (hown.alloc _) hgrow (by omega) (B.alloc _)
      have hW1 := world_kept (hown.alloc _) hgrow (balloc hW _) (Nat.le_refl _) (by omega)
      have hown2 : w1.ownsRow (w.heap.size + 2) 24 4 v' (k + 1) (fw a b (k + 1)) := hown1
      clear hown hown1 hgrow A B hW HB a0 a1 a2 a3 hq hi hz0 hz1 hz2 hu hsz
      have hz : mdN (eu a b k) (eu a b (k + 1)) = eu a b (k + 2) := rfl
      have hd := fun w => rdivide_all (eu a b k) (eu a b (k + 1)) (HN.out.2.2 k) (HN.out.2.2 (k + 1)) w
      rw [hz] at hd
      have HF := Lib.hid (show ∀ i, i < k + 1 → eu a b i ≠ 0 from fun i hi => by
        by_cases e : i = k
        · rw [e]; exact HN.out.1
        · exact HN.out.2.1 i (by omega))
      clear hz
      have HREL := Lib.hid (fun (X : World) (h1 : X.ownsRow (w.heap.size + 2) 24 4 v' (k + 1) (fw a b (k + 1))) (h2 : Blk X w.heap.size 24 (Wc (eu a b (k + 1)))) (h3 : Blk X (w.heap.size + 1) 24 (Wc (eu a b (k + 2)))) (h4 : Below w.heap.size w X) => show ∃ k', c + k' = 601 ∧ (∀ i, i < k' → eu a b i ≠ 0) ∧ X.ownsRow (w.heap.size + 2) 24 4 v' k' (fw a b k') ∧ Blk X w.heap.size 24 (Wc (eu a b k')) ∧ Blk X (w.heap.size + 1) 24 (Wc (eu a b (k' + 1))) ∧ Below w.heap.size w X from ⟨k + 1, by omega, HF.out, h1, h2, h3, h4⟩)
      generalize eu a b (k + 2) = z at hd HREL
      generalize eu a b (k + 1) = y at hd B1 HREL
      generalize eu a b k = x at hd A1
      generalize x / y = q at hd
      have HD := Lib.hid hd
      have HO := Lib.hid hown2
      clear hd hown2 HF HN
      have cA0 := (cell_of_row w1 _ 0 _ _ _ A1).trans (wc_get (x) 0 (by omega))
      have cA1 := (cell_of_row w1 _ 1 _ _ _ A1).trans (wc_get (x) 1 (by omega))
      have cA2 := (cell_of_row w1 _ 2 _ _ _ A1).trans (wc_get (x) 2 (by omega))
      have cA3 := (cell_of_row w1 _ 3 _ _ _ A1).trans (wc_get (x) 3 (by omega))
      have cB0 := (cell_of_row w1 _ 0 _ _ _ B1).trans (wc_get (y) 0 (by omega))
      have cB1 := (cell_of_row w1 _ 1 _ _ _ B1).trans (wc_get (y) 1 (by omega))
      have cB2 := (cell_of_row w1 _ 2 _ _ _ B1).trans (wc_get (y) 2 (by omega))
      have cB3 := (cell_of_row w1 _ 3 _ _ _ B1).trans (wc_get (y) 3 (by omega))
      have H := Lib.hid (And.intro A1 (And.intro B1 hW1))
      clear A1 B1 hW1
      go_wp2_with fail
      refine (HD.out _).mono ?_
      rintro e w2 ⟨rfl, h2⟩
      obtain ⟨hA, hB, hW⟩ := H.out
      clear H cA0 cA1 cA2 cA3 cB0 cB1 cB2 cB3
      have hO := ((owns_below HO.out h2).alloc (.cells (Wc q) 24)).alloc (.cells (Wc z) 24)
      replace hA := ((hA.block_below h2).alloc (.cells (Wc q) 24)).alloc (.cells (Wc z) 24)
      replace hB := hB.block_below h2
      have hgl := hB.lt
      replace hB := (hB.alloc (.cells (Wc q) 24)).alloc (.cells (Wc z) 24)
      have hR := Blk.newS w2 (.cells (Wc q) 24) 24 (Wc z)
      replace hW := balloc (balloc (bstep hW h2) (.cells (Wc q) 24)) (.cells (Wc z) 24)
      replace hgl : w.heap.size + 1 < w2.heap.size + 1 := by omega
      have H := Lib.hid (And.intro hO (And.intro hA (And.intro hB (And.intro hR hW))))
      clear hO hA hB hR hW HO h2 HD
      go_upto_region 5 with fail
      obtain ⟨W3, hW3⟩ : ∃ W3, (w2.alloc (.cells (Wc q) 24)).alloc (.cells (Wc z) 24) = W3 := ⟨_, rfl⟩
      rw [hW3] at H ⊢
      clear hW3
      generalize w2.heap.size + 1 = gr at H hgl ⊢
      generalize w2.heap.size = gq at *
      obtain ⟨hO, hA, hB, hR, hW⟩ := H.out
      clear H
      have cA0 := (cell_of_row W3 _ 0 _ _ _ hA).trans (wc_get (x) 0 (by omega))
      have fA0 := frozen_of_row W3 _ 0 _ _ hA
      have cA1 := (cell_of_row W3 _ 1 _ _ _ hA).trans (wc_get (x) 1 (by omega))
      have fA1 := frozen_of_row W3 _ 1 _ _ hA
      have cA2 := (cell_of_row W3 _ 2 _ _ _ hA).trans (wc_get (x) 2 (by omega))
      have fA2 := frozen_of_row W3 _ 2 _ _ hA
      have cA3 := (cell_of_row W3 _ 3 _ _ _ hA).trans (wc_get (x) 3 (by omega))
      have fA3 := frozen_of_row W3 _ 3 _ _ hA
      have cB0 := (cell_of_row W3 _ 0 _ _ _ hB).trans (wc_get (y) 0 (by omega))
      have fB0 := frozen_of_row W3 _ 0 _ _ hB
      have cB1 := (cell_of_row W3 _ 1 _ _ _ hB).trans (wc_get (y) 1 (by omega))
      have fB1 := frozen_of_row W3 _ 1 _ _ hB
      have cB2 := (cell_of_row W3 _ 2 _ _ _ hB).trans (wc_get (y) 2 (by omega))
      have fB2 := frozen_of_row W3 _ 2 _ _ hB
      have cB3 := (cell_of_row W3 _ 3 _ _ _ hB).trans (wc_get (y) 3 (by omega))
      have fB3 := frozen_of_row W3 _ 3 _ _ hB
      have cR0 := (cell_of_row W3 _ 0 _ _ _ hR).trans (wc_get (z) 0 (by omega))
      have cR1 := (cell_of_row W3 _ 1 _ _ _ hR).trans (wc_get (z) 1 (by omega))
      have cR2 := (cell_of_row W3 _ 2 _ _ _ hR).trans (wc_get (z) 2 (by omega))
      have cR3 := (cell_of_row W3 _ 3 _ _ _ hR).trans (wc_get (z) 3 (by omega))
      have hG := grown_set4 W3 (w.heap.size) (.int .u64 (lb y 0)) (.int .u64 (lb y 1)) (.int .u64 (lb y 2)) (.int .u64 (lb y 3))
      have hG2 := grown_set4 ((((W3.setCell ⟨w.heap.size, 0, none⟩ (.int .u64 (lb (y) 0))).setCell ⟨w.heap.size, 1, none⟩ (.int .u64 (lb (y) 1))).setCell ⟨w.heap.size, 2, none⟩ (.int .u64 (lb (y) 2))).setCell ⟨w.heap.size, 3, none⟩ (.int .u64 (lb (y) 3))) (w.heap.size + 1) (.int .u64 (lb z 0)) (.int .u64 (lb z 1)) (.int .u64 (lb z 2)) (.int .u64 (lb z 3))
      have hA2 := (hA.set4 y).kept hG2 (by intro e; injection e; omega)
      have hB2 := (hB.kept hG (by intro e; injection e; omega)).set4 z
      have hW2 := step_world (step_world hW hG (Nat.le_refl _) (by omega)) hG2 (Nat.le_refl _) (by omega)
      have hO2 := hO
      replace hO2 := ownsRow_setCell_below hO2 (a := ⟨w.heap.size, 0, none⟩) (by show _ < _; dsimp only; omega) (.int .u64 (lb y 0))
      replace hO2 := ownsRow_setCell_below hO2 (a := ⟨w.heap.size, 1, none⟩) (by show _ < _; dsimp only; omega) (.int .u64 (lb y 1))
      replace hO2 := ownsRow_setCell_below hO2 (a := ⟨w.heap.size, 2, none⟩) (by show _ < _; dsimp only; omega) (.int .u64 (lb y 2))
      replace hO2 := ownsRow_setCell_below hO2 (a := ⟨w.heap.size, 3, none⟩) (by show _ < _; dsimp only; omega) (.int .u64 (lb y 3))
      replace hO2 := ownsRow_setCell_below hO2 (a := ⟨w.heap.size + 1, 0, none⟩) (by show _ < _; dsimp only; omega) (.int .u64 (lb z 0))
      replace hO2 := ownsRow_setCell_below hO2 (a := ⟨w.heap.size + 1, 1, none⟩) (by show _ < _; dsimp only; omega) (.int .u64 (lb z 1))
      replace hO2 := ownsRow_setCell_below hO2 (a := ⟨w.heap.size + 1, 2, none⟩) (by show _ < _; dsimp only; omega) (.int .u64 (lb z 2))
      replace hO2 := ownsRow_setCell_below hO2 (a := ⟨w.heap.size + 1, 3, none⟩) (by show _ < _; dsimp only; omega) (.int .u64 (lb z 3))
      have HE := Lib.hid (HREL.out _ hO2.drew (Blk.drewR hA2) (Blk.drewR hB2) hW2.drew)
      clear hO hA hB hR hW hG hG2 hA2 hB2 hW2 hO2 HREL
      go_region
      all_goals
        go_wp2
        go_roundg c
        case measure => omega
        case rel => exact HE.out
end Go.Proofs.Ythdapmceafnhgaa
