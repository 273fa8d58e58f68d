/- Texts laid into one: Pi. -/
import Derived.Test.YtenepkgjdoddgaaGreatDoorPh
import Derived.Test.YtenepkgjdoddgaaGreatDoorVe
import Derived.Test.YtenepkgjdoddgaaGreatDoorPf
import Derived.Test.YtenepkgjdoddgaaGreatDoorSy
import Derived.Test.YtenepkgjdoddgaaGreatDoorAi
/- policy's laws: the reference's Address. -/
namespace Go.Proofs.YtenepkgjdoddgaaGreatDoor
open Go.RowKit Go.Shelf
attribute [local irreducible] lb
/-- The first k of twenty numbers, noughts behind. -/
def gtC (f : Nat → Nat) (k : Nat) : Array Value := ((List.range 20).map fun p => Value.int .u8 (if p < k then ((f p : Nat) : Int) else 0)).toArray
theorem gtC_get (f : Nat → Nat) (k p : Nat) (hp : p < 20) : (gtC f k)[p]? = some (.int .u8 (if p < k then ((f p : Nat) : Int) else 0)) := by
  unfold gtC; simp [hp]
theorem gtC_size (f : Nat → Nat) (k : Nat) : (gtC f k).size = 20 := by unfold gtC; simp
theorem gtC_zero (f : Nat → Nat) : gtC f 0 = zaC := by unfold gtC zaC; simp only [Nat.not_lt_zero, if_false]; rfl
theorem gtC_all (f : Nat → Nat) : gtC f 20 = adC ((List.range 20).map f) := by
  apply Array.ext_getElem?
  intro p
  by_cases hp : p < 20
  · rw [gtC_get _ _ _ hp, if_pos hp, adC_get, List.getElem?_map, List.getElem?_range hp]
    rfl
  · rw [Array.getElem?_eq_none (by rw [gtC_size]; omega), adC_get, List.getElem?_eq_none (by simp; omega)]
    rfl
theorem gtC_set (f : Nat → Nat) (k : Nat) (hk : k < 20) : (gtC f k).setIfInBounds k (.int .u8 (f k : Nat)) = gtC f (k + 1) := by
  apply Array.ext_getElem?
  intro p
  by_cases hp : p < 20
  · rw [Array.getElem?_setIfInBounds, gtC_size, gtC_get _ _ _ hp, gtC_get _ _ _ hp]
    by_cases h : k = p
    · subst h
      rw [if_pos rfl, if_pos hk, if_pos (by omega)]
    · rw [if_neg h]
      by_cases g : p < k
      · rw [if_pos g, if_pos (by omega)]
      · rw [if_neg g, if_neg (by omega)]
  · rw [Array.getElem?_eq_none (by rw [Array.size_setIfInBounds, gtC_size]; omega), Array.getElem?_eq_none (by rw [gtC_size]; omega)]
attribute [irreducible] gtC
/-- What two digits make. -/
def prD (T : List UInt8) (i : Nat) : Nat := 16 * dv (T.getD (2 * i) 0) + dv (T.getD (2 * i + 1) 0)
theorem prD_val (T : List UInt8) : ∀ k, 2 * k ≤ T.length → bv ((List.range k).map (prD T)) = valL (T.take (2 * k))
  | 0, _ => by simp [bv, valL]
  | k + 1, h => by
    rw [List.range_succ, List.map_append, List.map_cons, List.map_nil, bv_snoc, prD_val T k (by omega), show 2 * (k + 1) = 2 * k + 1 + 1 by omega, List.take_add_one, List.take_add_one, List.getElem?_eq_getElem (by omega), List.getElem?_eq_getElem (by omega)]
    simp only [Option.toList]
    rw [valL_snoc, valL_snoc]
    unfold prD
    rw [List.getD_eq_getElem?_getD, List.getD_eq_getElem?_getD, List.getElem?_eq_getElem (by omega), List.getElem?_eq_getElem (by omega)]
    simp only [Option.getD_some]
    omega
theorem dv_at {T : List UInt8} (h : ∀ y ∈ T, dv y < 16) (k : Nat) (hk : k < T.length) : dv (T.getD k 0) < 16 := by
  rw [List.getD_eq_getElem?_getD, List.getElem?_eq_getElem hk]
  exact h _ (List.getElem_mem hk)
theorem prD_ad (T : List UInt8) (hl : T.length = 40) (h : ∀ y ∈ T, dv y < 16) : Ad ((List.range 20).map (prD T)) := by
  refine ⟨by simp, fun x hx => ?_⟩
  obtain ⟨i, hi, rfl⟩ := List.mem_map.1 hx
  have hi' : i < 20 := by simpa using hi
  have h1 := dv_at h (2 * i) (by omega)
  have h2 := dv_at h (2 * i + 1) (by omega)
  unfold prD
  omega
theorem prD_low (T : List UInt8) (hl : T.length = 40) (h : ∀ y ∈ T, dv y < 16) : (List.range 20).map (prD T) = lowA (valL T) := by
  have e := prD_val T 20 (by omega)
  rw [List.take_of_length_le (by omega)] at e
  rw [← e]
  exact (low_bv (prD_ad T hl h)).symm
theorem str_ix (S : ByteArray) (k : Nat) (z : Int) (hz : z = (k : Int)) (h : k < S.size) (w : World) : (Instr.index 9 (.string S) (.int .i64 z)).run Tryz.prog w = .ok (.int .u8 ((S.data.toList.getD k 0).toNat : Nat)) w := by
  subst hz
  have h0 : (0 : Int) ≤ (k : Int) := by omega
  have h1 : (k : Int) < (S.size : Nat) := by omega
  have e : S.data.toList.getD k 0 = S[k]'h := by
    rw [List.getD_eq_getElem?_getD, List.getElem?_eq_getElem (by simpa using h)]
    rfl
  rw [e]
  simp [go_sem, h0, h1]
theorem boxP (w : World) : ∃ X, (w.alloc (.cells #[.int .u8 0, .int .u8 0, .int .u8 0, .int .u8 0, .int .u8 0, .int .u8 0, .int .u8 0, .int .u8 0, .int .u8 0, .int .u8 0, .int .u8 0, .int .u8 0, .int .u8 0, .int .u8 0, .int .u8 0, .int .u8 0, .int .u8 0, .int .u8 0, .int .u8 0, .int .u8 0] 29)).alloc (.cells #[.int .u8 0, .int .u8 0, .int .u8 0, .int .u8 0, .int .u8 0, .int .u8 0, .int .u8 0, .int .u8 0, .int .u8 0, .int .u8 0, .int .u8 0, .int .u8 0, .int .u8 0, .int .u8 0, .int .u8 0, .int .u8 0, .int .u8 0, .int .u8 0, .int .u8 0, .int .u8 0] 29) = X ∧ Blk X w.heap.size 29 zaC ∧ Blk X (w.heap.size + 1) 29 zaC ∧ Below w.heap.size w X := by
  rw [← zaC_lit]
  exact ⟨_, rfl, (Blk.new w _ _).alloc _, Blk.newS w _ _ _, balloc (balloc (Below.refl _ _) _) _⟩
set_option maxRecDepth 100000 in
set_option maxHeartbeats 4000000 in
/-- 0x and forty bytes: an address where each is a digit. -/
theorem raddr_all (T : List UInt8) (hl : T.length = 40) (v : Value) (ok : Bool) (hv : ((∀ y ∈ T, dv y < 16) ∧ v = .agg (adC (lowA (valL T))) ∧ ok = true) ∨ ((¬ ∀ y ∈ T, dv y < 16) ∧ v = .agg zaC ∧ ok = false)) (w : World) :
    Calls Tryz.prog 27 #[.string ⟨(48 :: 120 :: T).toArray⟩] w fun e w' => e = .returned (.tuple #[v, .bool ok]) ∧ Below w.heap.size w w' := by
  obtain ⟨S, hS⟩ : ∃ S, (⟨(48 :: 120 :: T).toArray⟩ : ByteArray) = S := ⟨_, rfl⟩
  have hz : S.size = 42 := by rw [← hS]; simp [ByteArray.size, hl]
  have hg : ∀ k, S.data.toList.getD (2 + k) 0 = T.getD k 0 := fun k => by
    rw [← hS, Nat.add_comm]
    rfl
  have hx : S.extract 0 2 = ⟨#[48, 120]⟩ := by
    rw [← hS, ByteArray.extract_mk]
    rfl
  have hsl : ∀ Y, (Instr.slice 9 (.string S) none (some (.int .i64 2)) none).run Tryz.prog Y = .ok (.string ⟨#[48, 120]⟩) Y := fun Y => by
    have h := str_to S 2 (by omega) Y
    rw [hx] at h
    exact h
  have hix : ∀ (k : Nat) (z : Int), z = ((2 + k : Nat) : Int) → k < 40 → ∀ Y, (Instr.index 9 (.string S) (.int .i64 z)).run Tryz.prog Y = .ok (.int .u8 ((T.getD k 0).toNat : Nat)) Y := fun k z hzz hk Y => by
    rw [← hg k]
    exact str_ix S (2 + k) z hzz (by omega) Y
  rw [hS]
  have g1 : (S.size : Int) = 42 := by omega
  obtain ⟨X, hX, b1, b2, hW⟩ := boxP w
  have HX := Lib.hid hX
  have H0 := Lib.hid (And.intro b1 (And.intro b2 hW))
  have HIX := Lib.hid hix
  have HV := Lib.hid hv
  have HL := Lib.hid hl
  clear hX b1 b2 hW hix hv hl hg hx hz hS
  go_enter Tryz.func27, Tryz.ntmps27
  go_upto_region 2 with fail
  rw [HX.out]
  go_wp2_with fail
  go_loopw [5] (fun t wr => ∃ i : Nat, i ≤ 20 ∧ t = .int .i64 i ∧ (∀ j, j < 2 * i → dv (T.getD j 0) < 16) ∧ Blk wr (w.heap.size + 1) 29 (gtC (prD T) i) ∧ Blk wr w.heap.size 29 zaC ∧ Below w.heap.size w wr) (fun t _ => 20 - (intOf t).toNat)
  case atStart => exact ⟨0, by omega, rfl, fun j hj => absurd hj (by omega), by rw [gtC_zero]; exact H0.out.2.1, H0.out.1, H0.out.2.2⟩
  case round =>
    clear H0 HX
    obtain ⟨i, hi, rfl, hd, hs, hr, hB⟩ := hrel
    by_cases hlt : i < 20
    · have g2 : IntKind.i64.wrap (2 * (i : Int)) = 2 * (i : Int) := IntWalk.i64_in _ (by omega)
      have g3 : IntKind.i64.wrap (2 + 2 * (i : Int)) = 2 + 2 * (i : Int) := IntWalk.i64_in _ (by omega)
      have g4 : IntKind.i64.wrap (3 + 2 * (i : Int)) = 3 + 2 * (i : Int) := IntWalk.i64_in _ (by omega)
      have g5 : (i : Int) < 20 := by omega
      have hi1 := HIX.out (2 * i) (2 + 2 * (i : Int)) (by omega) (by omega)
      have hi2 := HIX.out (2 * i + 1) (3 + 2 * (i : Int)) (by omega) (by omega)
      obtain ⟨b1, e1⟩ : ∃ b, T.getD (2 * i) 0 = b := ⟨_, rfl⟩
      obtain ⟨b2, e2⟩ : ∃ b, T.getD (2 * i + 1) 0 = b := ⟨_, rfl⟩
      have hp : prD T i = 16 * dv b1 + dv b2 := by unfold prD; rw [e1, e2]
      rw [e1] at hi1
      rw [e2] at hi2
      have hD1 := fun Y => rdigit_any b1 Y
      have hD2 := fun Y => rdigit_any b2 Y
      have HH := Lib.hid (And.intro hd (And.intro hs (And.intro hr hB)))
      clear hd hs hr hB
      by_cases k1 : dv b1 < 16
      · by_cases k2 : dv b2 < 16
        · simp only [if_pos k1] at hD1
          simp only [if_pos k2] at hD2
          obtain ⟨x, hx⟩ : ∃ x, dv b1 = x := ⟨_, rfl⟩
          obtain ⟨y, hy⟩ : ∃ y, dv b2 = y := ⟨_, rfl⟩
          rw [hx] at hD1 hp k1
          rw [hy] at hD2 hp k2
          have HD1 := Lib.hid hD1
          have HD2 := Lib.hid hD2
          have HP := Lib.hid hp
          have HQ := Lib.hid (And.intro e1 (And.intro e2 (And.intro hx hy)))
          have g6 : IntKind.i64.wrap (16 * (x : Int)) = 16 * (x : Int) := IntWalk.i64_in _ (by omega)
          have g7 : IntKind.i64.wrap (16 * (x : Int) + (y : Int)) = ((16 * x + y : Nat) : Int) := IntWalk.i64_in _ (by omega)
          have g8 : IntKind.u8.wrap ((16 * x + y : Nat) : Int) = ((16 * x + y : Nat) : Int) := IntWalk.u8_in _ (by omega)
          have hfr := frozen_of_row wr _ i _ _ HH.out.2.1
          have hc := (cell_of_row wr _ _ _ _ _ HH.out.2.1).trans (gtC_get (prD T) i i hlt)
          clear hD1 hD2 hp e1 e2 hx hy
          go_wp2_with fail
          go_quiet ((first | (go_at_call 66; with_reducible exact Calls.quiet_of_same ((HD1.out _).mono fun _ _ ⟨h, k⟩ => ⟨h, k.symm⟩)) | (go_at_call 66; with_reducible exact Calls.quiet_of_same ((HD2.out _).mono fun _ _ ⟨h, k⟩ => ⟨h, k.symm⟩))))
          go_wp2_with fail
          have hb := HH.out.2.1.drewN nq
          have G := grown_set' (grown_refl (wr.drewN nq) (w.heap.size + 1)) i (.int .u8 (16 * (x : Int) + (y : Int)))
          have h := heap_setCell_same (wr.drewN nq) (w.heap.size + 1) i _ _ (.int .u8 ((prD T i : Nat) : Int)) hb
          rw [gtC_set (prD T) i hlt, HP.out, show ((16 * x + y : Nat) : Int) = 16 * (x : Int) + (y : Int) by omega] at h
          refine ⟨⟨i + 1, by omega, congrArg (Value.int .i64) (by omega), fun j hj => ?_, h, (HH.out.2.2.1.drewN nq).kept G (by simp), (HH.out.2.2.2.trans (⟨rfl, rfl, rfl, Nat.le_refl _, fun _ _ => rfl⟩ : Below w.heap.size wr (wr.drewN nq))).setCell (p := ⟨w.heap.size + 1, i, none⟩) (by simp) _⟩, by simp [intOf]; omega⟩
          rcases Nat.lt_or_ge j (2 * i) with h1 | h1
          · exact HH.out.1 j h1
          · rcases (show j = 2 * i ∨ j = 2 * i + 1 by omega) with rfl | rfl
            · rw [HQ.out.1, HQ.out.2.2.1]; exact k1
            · rw [HQ.out.2.1, HQ.out.2.2.2]; exact k2
        · simp only [if_pos k1] at hD1
          simp only [if_neg k2] at hD2
          obtain ⟨x, hx⟩ : ∃ x, dv b1 = x := ⟨_, rfl⟩
          rw [hx] at hD1 k1
          have HD1 := Lib.hid hD1
          have HD2 := Lib.hid hD2
          have HQ := Lib.hid (And.intro e2 k2)
          have gx : ¬ (x : Int) < 0 := by omega
          clear hD1 hD2 hp e1 e2 hx k1 k2
          go_wp2_with fail
          go_quiet ((first | (go_at_call 66; with_reducible exact Calls.quiet_of_same ((HD1.out _).mono fun _ _ ⟨h, k⟩ => ⟨h, k.symm⟩)) | (go_at_call 66; with_reducible exact Calls.quiet_of_same ((HD2.out _).mono fun _ _ ⟨h, k⟩ => ⟨h, k.symm⟩))))
          go_upto_region 9 with fail
          obtain ⟨Y, hY⟩ : ∃ Y, wr.drewN nq = Y := ⟨_, rfl⟩
          have bR : Blk Y w.heap.size 29 zaC := by rw [← hY]; exact HH.out.2.2.1.drewN nq
          have hBY : Below w.heap.size w Y := by rw [← hY]; exact HH.out.2.2.2.trans ⟨rfl, rfl, rfl, Nat.le_refl _, fun _ _ => rfl⟩
          rw [hY]
          clear hY
          have hvv : v = .agg zaC ∧ ok = false := by
            rcases HV.out with ⟨h, _⟩ | ⟨_, h1, h2⟩
            · have hk := dv_at h (2 * i + 1) (by have := HL.out; omega)
              rw [HQ.out.1] at hk
              exact absurd hk HQ.out.2
            · exact ⟨h1, h2⟩
          obtain ⟨rfl, rfl⟩ := hvv
          refine wp_region_lit ?_
          refine wpList_plain rfl fun K hK => ?_
          go_simp
          refine hK _ _ ?_
          clear hK K
          rw [← zaC_lit]
          refine wpList_store_row rfl 29 (.tmp 2) (.tmp 39) rfl w.heap.size zaC rfl rfl 29 zaC bR (by rw [info_addr, zaC_size]) rfl zaC_one ?_
          rw [setRow_self _ _ _ _ _ bR]
          refine wpList_plain rfl fun K hK => ?_
          go_simp
          refine hK _ _ ?_
          clear hK K
          refine wpList_nil ?_
          have HE := Lib.hid (And.intro bR hBY)
          clear bR hBY
          go_wp2_with fail
          exact ⟨rfl, _, results_row_tmp rfl _ _ w.heap.size 29 zaC (0, 0) _ rfl HE.out.1 und_addr rfl (by rw [info_addr, zaC_size]), rfl, HE.out.2⟩
      · simp only [if_neg k1] at hD1
        obtain ⟨r2, hr2⟩ : ∃ r, (if dv b2 < 16 then (dv b2 : Int) else -1) = r := ⟨_, rfl⟩
        simp only [hr2] at hD2
        have HD1 := Lib.hid hD1
        have HD2 := Lib.hid hD2
        have HQ := Lib.hid (And.intro e1 k1)
        clear hD1 hD2 hp e1 e2 hr2 k1
        go_wp2_with fail
        go_quiet ((first | (go_at_call 66; with_reducible exact Calls.quiet_of_same ((HD1.out _).mono fun _ _ ⟨h, k⟩ => ⟨h, k.symm⟩)) | (go_at_call 66; with_reducible exact Calls.quiet_of_same ((HD2.out _).mono fun _ _ ⟨h, k⟩ => ⟨h, k.symm⟩))))
        go_upto_region 9 with fail
        obtain ⟨Y, hY⟩ : ∃ Y, wr.drewN nq = Y := ⟨_, rfl⟩
        have bR : Blk Y w.heap.size 29 zaC := by rw [← hY]; exact HH.out.2.2.1.drewN nq
        have hBY : Below w.heap.size w Y := by rw [← hY]; exact HH.out.2.2.2.trans ⟨rfl, rfl, rfl, Nat.le_refl _, fun _ _ => rfl⟩
        rw [hY]
        clear hY
        have hvv : v = .agg zaC ∧ ok = false := by
          rcases HV.out with ⟨h, _⟩ | ⟨_, h1, h2⟩
          · have hk := dv_at h (2 * i) (by have := HL.out; omega)
            rw [HQ.out.1] at hk
            exact absurd hk HQ.out.2
          · exact ⟨h1, h2⟩
        obtain ⟨rfl, rfl⟩ := hvv
        refine wp_region_lit ?_
        refine wpList_plain rfl fun K hK => ?_
        go_simp
        refine hK _ _ ?_
        clear hK K
        rw [← zaC_lit]
        refine wpList_store_row rfl 29 (.tmp 2) (.tmp 39) rfl w.heap.size zaC rfl rfl 29 zaC bR (by rw [info_addr, zaC_size]) rfl zaC_one ?_
        rw [setRow_self _ _ _ _ _ bR]
        refine wpList_plain rfl fun K hK => ?_
        go_simp
        refine hK _ _ ?_
        clear hK K
        refine wpList_nil ?_
        have HE := Lib.hid (And.intro bR hBY)
        clear bR hBY
        go_wp2_with fail
        exact ⟨rfl, _, results_row_tmp rfl _ _ w.heap.size 29 zaC (0, 0) _ rfl HE.out.1 und_addr rfl (by rw [info_addr, zaC_size]), rfl, HE.out.2⟩
    · obtain rfl : i = 20 := by omega
      have HH := Lib.hid (And.intro hd (And.intro hs (And.intro hr hB)))
      clear hd hs hr hB
      have hall : ∀ y ∈ T, dv y < 16 := fun y hy => by
        obtain ⟨j, hj, rfl⟩ := List.mem_iff_getElem.1 hy
        have h := HH.out.1 j (by have := HL.out; omega)
        rwa [List.getD_eq_getElem?_getD, List.getElem?_eq_getElem hj] at h
      have hvv : v = .agg (adC (lowA (valL T))) ∧ ok = true := by
        rcases HV.out with ⟨_, h1, h2⟩ | ⟨h, _⟩
        · exact ⟨h1, h2⟩
        · exact absurd hall h
      obtain ⟨rfl, rfl⟩ := hvv
      have hs := HH.out.2.1
      rw [gtC_all, prD_low T HL.out hall] at hs
      have HA := Lib.hid (lowA_ad (valL T))
      have HS := Lib.hid hs
      clear hs hall
      go_upto_region 11 with fail
      refine wp_region_lit ?_
      refine wpList_load_midA rfl 29 (.tmp 4) rfl (w.heap.size + 1) 0 rfl (adC (lowA (valL T))) _ HS.out.range und_addr rfl (by rw [info_addr, adC_size HA.out]) ?_
      refine wpList_store_row rfl 29 (.tmp 2) (.tmp 47) rfl w.heap.size (adC (lowA (valL T))) rfl rfl 29 zaC HH.out.2.2.1 (by rw [info_addr, adC_size HA.out]) (by rw [zaC_size, adC_size HA.out]) (adC_one _) ?_
      have hgr : Blk (wr.setRow w.heap.size (adC (lowA (valL T)))) w.heap.size 29 (adC (lowA (valL T))) := setRow_heap _ _ _ _ _ _ HH.out.2.2.1
      have HE := Lib.hid (And.intro hgr (HH.out.2.2.2.trans (⟨rfl, rfl, rfl, by simp, fun k hk => setRow_other _ _ _ _ (by omega)⟩ : Below w.heap.size wr (wr.setRow w.heap.size (adC (lowA (valL T)))))))
      clear hgr
      generalize wr.setRow w.heap.size (adC (lowA (valL T))) = Z at HE ⊢
      refine wpList_plain rfl fun K hK => ?_
      go_simp
      refine hK _ _ ?_
      clear hK K
      refine wpList_nil ?_
      go_wp2_with fail
      exact ⟨rfl, _, results_row_tmp rfl _ _ w.heap.size 29 (adC (lowA (valL T))) (0, 0) _ rfl HE.out.1 und_addr rfl (by rw [info_addr, adC_size HA.out]), rfl, HE.out.2⟩
end Go.Proofs.YtenepkgjdoddgaaGreatDoor

/- policy's laws: texts that are no address's. -/
namespace Go.Proofs.YtenepkgjdoddgaaGreatDoor
open Go.RowKit Go.Shelf
attribute [local irreducible] lb
theorem ext_pre9 (s : ByteArray) : ((s.extract 0 2).toList == [48, 120]) = Lib.hasPrefix s.data.toList [48, 120] := by
  obtain ⟨l, rfl⟩ : ∃ l : List UInt8, s = ⟨l.toArray⟩ := ⟨s.data.toList, by simp⟩
  rw [ByteArray.extract_mk, ByteArray.toList_eq]
  show ((l.drop 0).take 2 == [48, 120]) = Lib.hasPrefix l [48, 120]
  unfold Lib.hasPrefix
  match l with
  | [] => rfl
  | [a] => simp [List.isPrefixOf]
  | a :: b :: t =>
    have c : ∀ x y : UInt8, (x == y) = (y == x) := fun x y => by rw [Bool.eq_iff_iff]; simp only [beq_iff_eq]; exact ⟨Eq.symm, Eq.symm⟩
    show ((a == 48) && ((b == 120) && true)) = ((48 == a) && ((120 == b) && List.isPrefixOf [] t))
    rw [c a, c b, List.isPrefixOf]
theorem pre_ne (s : ByteArray) (h : Lib.hasPrefix s.data.toList [48, 120] = false) : ((s.extract 0 2).toList == [48, 120]) = false := by rw [ext_pre9, h]
set_option maxRecDepth 100000 in
set_option maxHeartbeats 4000000 in
theorem raddr_not (s : ByteArray) (h : s.size ≠ 42 ∨ s.size = 42 ∧ Lib.hasPrefix s.data.toList [48, 120] = false) (w : World) :
    Calls Tryz.prog 27 #[.string s] w fun e w' => e = .returned (.tuple #[.agg zaC, .bool false]) ∧ Below w.heap.size w w' := by
  obtain ⟨X, hX, b1, b2, hW⟩ := boxP w
  have HX := Lib.hid hX
  have H0 := Lib.hid (And.intro b1 (And.intro b2 hW))
  clear hX b1 b2 hW
  have tail : True := trivial
  rcases h with h | ⟨h, hp⟩
  · have g1 : ¬ (s.size : Int) = 42 := by omega
    clear h
    go_enter Tryz.func27, Tryz.ntmps27
    go_upto_region 2 with fail
    rw [HX.out]
    go_upto_region 3 with fail
    refine wp_region_lit ?_
    refine wpList_load_midA rfl 29 (.tmp 4) rfl (w.heap.size + 1) 0 rfl zaC _ H0.out.2.1.range und_addr rfl (by rw [info_addr, zaC_size]) ?_
    refine wpList_store_row rfl 29 (.tmp 2) (.tmp 16) rfl w.heap.size zaC rfl rfl 29 zaC H0.out.1 (by rw [info_addr, zaC_size]) rfl zaC_one ?_
    rw [setRow_self _ _ _ _ _ H0.out.1]
    refine wpList_plain rfl fun K hK => ?_
    go_simp
    refine hK _ _ ?_
    clear hK K
    refine wpList_nil ?_
    go_wp2_with fail
    exact ⟨rfl, _, results_row_tmp rfl _ _ w.heap.size 29 zaC (0, 0) _ rfl H0.out.1 und_addr rfl (by rw [info_addr, zaC_size]), rfl, H0.out.2.2⟩
  · have g1 : (s.size : Int) = 42 := by omega
    have hsl := fun Y => str_to s 2 (by omega) Y
    have hne := pre_ne s hp
    have hz : (2 : Int) ≤ (s.size : Int) := by omega
    obtain ⟨U, hU⟩ : ∃ U, s.extract 0 2 = U := ⟨_, rfl⟩
    rw [hU] at hne
    simp only [hU] at hsl
    have hne2 : ¬ U.toList = [48, 120] := by simpa using hne
    have hne3 : ¬ U = ⟨#[48, 120]⟩ := fun e => hne2 (by rw [e, ByteArray.toList_eq])
    have hsl2 : ∀ Y, (Instr.slice 9 (.string s) none (some (.int .i64 2)) none).run Tryz.prog Y = .ok (.string U) Y := hsl
    clear h hp hU hsl
    go_enter Tryz.func27, Tryz.ntmps27
    go_upto_region 2 with fail
    rw [HX.out]
    go_upto_region 3 with fail
    refine wp_region_lit ?_
    refine wpList_load_midA rfl 29 (.tmp 4) rfl (w.heap.size + 1) 0 rfl zaC _ H0.out.2.1.range und_addr rfl (by rw [info_addr, zaC_size]) ?_
    refine wpList_store_row rfl 29 (.tmp 2) (.tmp 16) rfl w.heap.size zaC rfl rfl 29 zaC H0.out.1 (by rw [info_addr, zaC_size]) rfl zaC_one ?_
    rw [setRow_self _ _ _ _ _ H0.out.1]
    refine wpList_plain rfl fun K hK => ?_
    go_simp
    refine hK _ _ ?_
    clear hK K
    refine wpList_nil ?_
    go_wp2_with fail
    exact ⟨rfl, _, results_row_tmp rfl _ _ w.heap.size 29 zaC (0, 0) _ rfl H0.out.1 und_addr rfl (by rw [info_addr, zaC_size]), rfl, H0.out.2.2⟩
set_option maxRecDepth 100000 in
set_option maxHeartbeats 4000000 in
theorem naddr_not (s R : ByteArray) (p : Bool) (hc : ∀ Y, Calls Tryz.prog 62 #[.string s, .string ⟨#[48, 120]⟩] Y fun e w' => e = .returned (.tuple #[.string R, .bool p]) ∧ Y = w') (h : p = false ∨ p = true ∧ R.size ≠ 40) (w : World) :
    Calls Tryz.prog 26 #[.string s] w fun e w' => e = .returned (.tuple #[.agg zaC, .int .i64 190]) ∧ Below w.heap.size w w' := by
  have HC := Lib.hid hc
  clear hc
  rcases h with rfl | ⟨rfl, h⟩
  · go_enter Tryz.func26, Tryz.ntmps26
    go_upto_region 3 with (first | (go_at_call 62; refine (HC.out _).mono ?_; rintro e w' ⟨rfl, rfl⟩) | fail)
    rw [← zaC_lit]
    obtain ⟨X, hX⟩ : ∃ X, w.alloc (.cells zaC 29) = X := ⟨_, rfl⟩
    have b1 : Blk X w.heap.size 29 zaC := by rw [← hX]; exact Blk.new w _ _
    have hW : Below w.heap.size w X := by rw [← hX]; exact balloc (Below.refl _ _) _
    rw [hX]
    clear hX
    refine wp_region_lit ?_
    refine wpList_plain rfl fun K hK => ?_
    go_simp
    refine hK _ _ ?_
    clear hK K
    rw [← zaC_lit]
    refine wpList_store_row rfl 29 (.tmp 2) (.tmp 20) rfl w.heap.size zaC rfl rfl 29 zaC b1 (by rw [info_addr, zaC_size]) rfl zaC_one ?_
    rw [setRow_self _ _ _ _ _ b1]
    refine wpList_plain rfl fun K hK => ?_
    go_simp
    refine hK _ _ ?_
    clear hK K
    refine wpList_nil ?_
    have HE := Lib.hid (And.intro b1 hW)
    clear b1 hW
    go_wp2_with fail
    exact ⟨rfl, _, results_row_tmp rfl _ _ w.heap.size 29 zaC (0, 0) _ rfl HE.out.1 und_addr rfl (by rw [info_addr, zaC_size]), rfl, HE.out.2⟩
  · have g1 : ¬ (R.size : Int) = 40 := by omega
    clear h
    go_enter Tryz.func26, Tryz.ntmps26
    go_upto_region 3 with (first | (go_at_call 62; refine (HC.out _).mono ?_; rintro e w' ⟨rfl, rfl⟩) | fail)
    rw [← zaC_lit]
    obtain ⟨X, hX⟩ : ∃ X, w.alloc (.cells zaC 29) = X := ⟨_, rfl⟩
    have b1 : Blk X w.heap.size 29 zaC := by rw [← hX]; exact Blk.new w _ _
    have hW : Below w.heap.size w X := by rw [← hX]; exact balloc (Below.refl _ _) _
    rw [hX]
    clear hX
    refine wp_region_lit ?_
    refine wpList_plain rfl fun K hK => ?_
    go_simp
    refine hK _ _ ?_
    clear hK K
    rw [← zaC_lit]
    refine wpList_store_row rfl 29 (.tmp 2) (.tmp 20) rfl w.heap.size zaC rfl rfl 29 zaC b1 (by rw [info_addr, zaC_size]) rfl zaC_one ?_
    rw [setRow_self _ _ _ _ _ b1]
    refine wpList_plain rfl fun K hK => ?_
    go_simp
    refine hK _ _ ?_
    clear hK K
    refine wpList_nil ?_
    have HE := Lib.hid (And.intro b1 hW)
    clear b1 hW
    go_wp2_with fail
    exact ⟨rfl, _, results_row_tmp rfl _ _ w.heap.size 29 zaC (0, 0) _ rfl HE.out.1 und_addr rfl (by rw [info_addr, zaC_size]), rfl, HE.out.2⟩
end Go.Proofs.YtenepkgjdoddgaaGreatDoor

/- policy's laws: forty bytes that are not all digits. -/
namespace Go.Proofs.YtenepkgjdoddgaaGreatDoor
open Go.RowKit Go.Shelf
attribute [local irreducible] lb
theorem trim_head : ∀ (l : List UInt8) (x : UInt8) (m : List UInt8), Lib.trimLeftB l 48 = x :: m → x ≠ 48
  | [], x, m, h => by cases h
  | y :: l, x, m, h => by
    by_cases hy : (y == 48) = true
    · have e : Lib.trimLeftB (y :: l) 48 = Lib.trimLeftB l 48 := by unfold Lib.trimLeftB; rw [List.dropWhile_cons_of_pos (p := (· == 48)) hy]
      rw [e] at h
      exact trim_head l x m h
    · have e : Lib.trimLeftB (y :: l) 48 = y :: l := by unfold Lib.trimLeftB; rw [List.dropWhile_cons_of_neg (p := (· == 48)) hy]
      rw [e] at h
      cases h
      simpa using hy
theorem adT_bad (T : List UInt8) (h : ¬ ∀ y ∈ T, dv y < 16) : (adT T).length ≤ T.length ∧ ∃ x l, adT T = x :: l ∧ x ≠ 48 ∧ ∃ j, j < (adT T).length ∧ ¬ dv ((adT T).getD j 0) < 16 := by
  obtain ⟨h1, h2⟩ := trim_back T
  have hb : ¬ ∀ y ∈ Lib.trimLeftB T 48, dv y < 16 := fun g => h fun y hy => by
    rw [← h1] at hy
    rcases List.mem_append.1 hy with hy | hy
    · rw [List.eq_of_mem_replicate hy]; decide
    · exact g y hy
  cases e : Lib.trimLeftB T 48 with
  | nil => rw [e] at hb; exact (hb (by simp)).elim
  | cons x l =>
    have ea : adT T = x :: l := by unfold adT; rw [e, if_neg (by simp)]
    refine ⟨by rw [ea, ← e]; exact h2, x, l, ea, trim_head T x l e, ?_⟩
    rw [ea]
    rw [e] at hb
    exact Classical.byContradiction fun g => hb fun y hy => by
      obtain ⟨j, hj, rfl⟩ := List.mem_iff_getElem.1 hy
      refine Classical.byContradiction fun k => g ⟨j, hj, ?_⟩
      rw [List.getD_eq_getElem?_getD, List.getElem?_eq_getElem hj]
      exact k
theorem parse_adT (T : List UInt8) (hl : T.length = 40) (h : ¬ ∀ y ∈ T, dv y < 16) (w : World) :
    Calls Tryz.prog 63 #[.string ⟨(48 :: 120 :: adT T).toArray⟩] w fun e w' => e = .returned (.tuple #[W 0, .int .i64 110]) ∧ Below w.heap.size w w' := by
  obtain ⟨h1, x, l, e, hx, j, hj, hb⟩ := adT_bad T h
  have hz : (⟨(adT T).toArray⟩ : ByteArray).size = (adT T).length := by simp [ByteArray.size]
  refine parse_bad ⟨(48 :: 120 :: adT T).toArray⟩ ⟨(adT T).toArray⟩ true (by rw [hz]; omega)
    (show (⟨(Lib.trimPrefix (48 :: 120 :: adT T) [48, 120]).toArray⟩ : ByteArray) = _ by rw [trim_0x])
    (show Lib.hasPrefix (48 :: 120 :: adT T) [48, 120] = true by simp [Lib.hasPrefix])
    (.inr (.inr (.inr ⟨by rw [hz, e]; simp, rfl, ?_, j, by rw [hz]; exact hj, hb⟩))) w
  show (adT T)[0]'_ ≠ 48
  simp only [e]
  exact hx
set_option maxRecDepth 100000 in
set_option maxHeartbeats 4000000 in
theorem naddr_bad (T : List UInt8) (hl : T.length = 40) (hok : ¬ ∀ y ∈ T, dv y < 16) (w : World) :
    Calls Tryz.prog 26 #[.string ⟨(48 :: 120 :: T).toArray⟩] w fun e w' => e = .returned (.tuple #[.agg zaC, .int .i64 190]) ∧ Below w.heap.size w w' := by
  have p1 := (adT_bad T hok).1
  have hlen : (adT T).length ≤ 64 := by rw [hl] at p1; omega
  have hp := fun X => parse_adT T hl hok X
  have HP := Lib.hid hp
  have hsz : (⟨T.toArray⟩ : ByteArray).size = 40 := hl
  have hszT : (⟨(adT T).toArray⟩ : ByteArray).size ≤ 64 := hlen
  have happ := lead_app (adT T)
  have htr := fun X => trimLeft_any ⟨T.toArray⟩ 48 (by decide) X
  obtain ⟨Z, hZ⟩ : ∃ Z, (⟨(Lib.trimLeftB (⟨T.toArray⟩ : ByteArray).data.toList 48).toArray⟩ : ByteArray) = Z := ⟨_, rfl⟩
  have hor : (if Z.data.toList = [] then (⟨#[48]⟩ : ByteArray) else Z) = ⟨(adT T).toArray⟩ := by rw [← hZ]; exact adT_or T
  rw [hZ] at htr
  have HT := Lib.hid htr
  have HO := Lib.hid hor
  obtain ⟨U, hU⟩ : ∃ U, (⟨(adT T).toArray⟩ : ByteArray) = U := ⟨_, rfl⟩
  rw [hU] at happ hszT HO
  have HC := Lib.hid (fun X => cutP_0x T X)
  have HPP := Lib.hid (fun X => HP.out X)
  clear p1 hlen hp htr hor hok hl hZ hU HP
  obtain ⟨TB, hTB⟩ : ∃ TB, (⟨T.toArray⟩ : ByteArray) = TB := ⟨_, rfl⟩
  rw [hTB] at hsz HT
  simp only [hTB] at HC
  simp only [W_zero] at HPP
  obtain ⟨S, hS⟩ : ∃ S, (⟨(48 :: 120 :: T).toArray⟩ : ByteArray) = S := ⟨_, rfl⟩
  rw [hS]
  simp only [hS] at HC
  obtain ⟨S2, hS2⟩ : ∃ S2, (⟨(48 :: 120 :: adT T).toArray⟩ : ByteArray) = S2 := ⟨_, rfl⟩
  rw [hS2] at happ
  simp only [hS2] at HPP
  clear hTB hS hS2
  go_enter Tryz.func26, Tryz.ntmps26
  go_upto_region 7 with (first
    | (go_at_call 62; refine (HC.out _).mono ?_; rintro e w' ⟨rfl, rfl⟩)
    | (go_at_call 65; refine (HT.out _).mono ?_; rintro e w' ⟨rfl, rfl⟩)
    | fail)
  rw [← zaC_lit]
  have hZ0 := (Blk.new w 29 zaC).alloc (.cells #[.string Z, .string ⟨#[48]⟩] 9)
  have hO0 := Blk.newS w (.cells zaC 29) 9 #[.string Z, .string ⟨#[48]⟩]
  have hW0 := balloc (balloc (Below.refl w.heap.size w) (.cells zaC 29)) (.cells #[.string Z, .string ⟨#[48]⟩] 9)
  obtain ⟨X1, hX1⟩ : ∃ X1, (w.alloc (.cells zaC 29)).alloc (.cells #[.string Z, .string ⟨#[48]⟩] 9) = X1 := ⟨_, rfl⟩
  rw [hX1] at hZ0 hO0 hW0 ⊢
  have hOr := orS_any Z ⟨#[48]⟩ (w.heap.size + 1) 9 X1 hO0 (by rw [ByteArray.toList_eq]; decide)
  rw [HO.out] at hOr
  refine hOr.mono ?_
  rintro e X2 ⟨rfl, rfl⟩
  have HX := Lib.hid (And.intro hZ0 hW0)
  clear hX1 hOr hO0 hZ0 hW0 HO HT HC
  rename_i K hK
  refine hK _ _ ?_
  clear hK K
  go_upto_region 6 with (first
    | (go_at_call 63; refine (HPP.out _).mono ?_; rintro e X2 ⟨rfl, h2⟩)
    | fail)
  have hZ3 := (HX.out.1.keep h2).alloc (.cells #[.int .u64 0, .int .u64 0, .int .u64 0, .int .u64 0] 58)
  have hW3 := balloc (bstep HX.out.2 h2) (.cells #[.int .u64 0, .int .u64 0, .int .u64 0, .int .u64 0] 58)
  obtain ⟨X3, hX3⟩ : ∃ X3, X2.alloc (.cells #[.int .u64 0, .int .u64 0, .int .u64 0, .int .u64 0] 58) = X3 := ⟨_, rfl⟩
  rw [hX3] at hZ3 hW3 ⊢
  clear hX3 h2 HX HPP
  refine wp_region_lit ?_
  refine wpList_plain rfl fun K hK => ?_
  go_simp
  refine hK _ _ ?_
  clear hK K
  rw [← zaC_lit]
  refine wpList_store_row rfl 29 (.tmp 2) (.tmp 32) rfl w.heap.size zaC rfl rfl 29 zaC hZ3 (by rw [info_addr, zaC_size]) rfl zaC_one ?_
  rw [setRow_self _ _ _ _ _ hZ3]
  refine wpList_plain rfl fun K hK => ?_
  go_simp
  refine hK _ _ ?_
  clear hK K
  refine wpList_nil ?_
  have HE := Lib.hid (And.intro hZ3 hW3)
  clear hZ3 hW3
  go_wp2_with fail
  exact ⟨rfl, _, results_row_tmp rfl _ _ w.heap.size 29 zaC (0, 0) _ rfl HE.out.1 und_addr rfl (by rw [info_addr, zaC_size]), rfl, HE.out.2⟩
end Go.Proofs.YtenepkgjdoddgaaGreatDoor

/- policy's laws: Address of any text, the program's and the reference's. -/
namespace Go.Proofs.YtenepkgjdoddgaaGreatDoor
open Go.RowKit Go.Shelf
attribute [local irreducible] lb
theorem ofL0_ad : Ad (ofL 0) := ofL_ad (by decide)
/-- What a text's address is, if it is one's. -/
theorem addr_both (s : ByteArray) : ∃ (A : List Nat) (ok : Bool) (n : Int), Ad A ∧ n = (if ok then 0 else 190) ∧
    (∀ Y, Calls Tryz.prog 26 #[.string s] Y fun e w' => e = .returned (.tuple #[.agg (adC A), .int .i64 n]) ∧ Below Y.heap.size Y w') ∧
    (∀ Y, Calls Tryz.prog 27 #[.string s] Y fun e w' => e = .returned (.tuple #[.agg (adC A), .bool ok]) ∧ Below Y.heap.size Y w') := by
  have hc := fun Y => cut_rest s Y
  have hsz : s.size = s.data.toList.length := Lib.size_eq s
  by_cases hp : Lib.hasPrefix s.data.toList [48, 120] = true
  · obtain ⟨T, hT⟩ : ∃ T, s.data.toList = 48 :: 120 :: T := by
      have h : [48, 120] <+: s.data.toList := List.isPrefixOf_iff_prefix.1 hp
      obtain ⟨T, h⟩ := h
      exact ⟨T, h.symm⟩
    have es : s = ⟨(48 :: 120 :: T).toArray⟩ := by rw [← hT]
    by_cases hl : T.length = 40
    · by_cases hok : ∀ y ∈ T, dv y < 16
      · refine ⟨lowA (valL T), true, 0, lowA_ad _, rfl, fun Y => ?_, fun Y => ?_⟩
        · rw [es]; exact address_ok T hl hok Y
        · rw [es]; exact raddr_all T hl _ _ (.inl ⟨hok, rfl, rfl⟩) Y
      · refine ⟨ofL 0, false, 190, ofL0_ad, rfl, fun Y => ?_, fun Y => ?_⟩
        · rw [es, ← zaC_ad]; exact naddr_bad T hl hok Y
        · rw [es, ← zaC_ad]; exact raddr_all T hl _ _ (.inr ⟨hok, rfl, rfl⟩) Y
    · refine ⟨ofL 0, false, 190, ofL0_ad, rfl, fun Y => ?_, fun Y => ?_⟩
      · rw [← zaC_ad]
        refine naddr_not s _ _ hc (.inr ⟨hp, ?_⟩) Y
        rw [hT, trim_0x]
        simpa [ByteArray.size] using hl
      · rw [← zaC_ad]
        exact raddr_not s (.inl (by rw [hsz, hT]; simp; omega)) Y
  · have hp' : Lib.hasPrefix s.data.toList [48, 120] = false := by simpa using hp
    refine ⟨ofL 0, false, 190, ofL0_ad, rfl, fun Y => ?_, fun Y => ?_⟩
    · rw [← zaC_ad]
      exact naddr_not s _ _ hc (.inl hp') Y
    · rw [← zaC_ad]
      exact raddr_not s (by by_cases h : s.size = 42; exact .inr ⟨h, hp'⟩; exact .inl h) Y
end Go.Proofs.YtenepkgjdoddgaaGreatDoor

