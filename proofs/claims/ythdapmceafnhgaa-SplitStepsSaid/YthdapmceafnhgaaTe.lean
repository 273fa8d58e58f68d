/- split: the whole product of two words. -/
import Derived.Test.YthdapmceafnhgaaTd
import Derived.Lib.Mul64
namespace Go.Proofs.Ythdapmceafnhgaa
open Go.RowKit
attribute [local go_sem] ix0 ix1 ix2 ix3
theorem maskN (a : Nat) (ha : a < 18446744073709551616) : bits .and .u64 (a : Int) 4294967295 = ((a % 4294967296 : Nat) : Int) := by
  have h := bits_and_u64_nat a 4294967295 ha (by omega)
  have e : a &&& 4294967295 = a % 4294967296 := Nat.and_two_pow_sub_one_eq_mod a 32
  rw [e] at h
  exact h
theorem divN (a : Nat) : (a : Int) / 4294967296 = ((a / 4294967296 : Nat) : Int) := by omega
theorem addN (a b : Nat) : (a : Int) + (b : Int) = ((a + b : Nat) : Int) := (Int.natCast_add a b).symm
theorem wrapN (a : Nat) (ha : a < 18446744073709551616) : IntKind.u64.wrap (a : Int) = (a : Int) := by rw [IntKind.wrap_u64]; omega

set_option maxHeartbeats 1000000 in
theorem mul64_raw (x y : Nat) (hx : x < 18446744073709551616) (hy : y < 18446744073709551616) (w : World) :
    Calls Try.prog 39 #[.int .u64 x, .int .u64 y] w fun e w' => e = .returned (.tuple #[.int .u64 ((x * y / 18446744073709551616 : Nat) : Int), .int .u64 ((x * y % 18446744073709551616 : Nat) : Int)]) ∧ w = w' := by
  obtain ⟨bd, bt, bw, hhi⟩ := Lib.mul64_hi x y hx hy
  have ba := Lib.half_mul_le (a := x / 4294967296) (b := y / 4294967296) (by omega) (by omega)
  have bb := Lib.half_mul_le (a := x / 4294967296) (b := y % 4294967296) (by omega) (by omega)
  have bc := Lib.half_mul_le (a := x % 4294967296) (b := y / 4294967296) (by omega) (by omega)
  have ba' : x / 4294967296 * (y / 4294967296) < 18446744073709551616 := by omega
  have bb' : x / 4294967296 * (y % 4294967296) < 18446744073709551616 := by omega
  have bc' : x % 4294967296 * (y / 4294967296) < 18446744073709551616 := by omega
  have bh1 : x / 4294967296 * (y / 4294967296) + (x / 4294967296 * (y % 4294967296) + x % 4294967296 * (y % 4294967296) / 4294967296) / 4294967296 < 18446744073709551616 := by omega
  have bh : x / 4294967296 * (y / 4294967296) + (x / 4294967296 * (y % 4294967296) + x % 4294967296 * (y % 4294967296) / 4294967296) / 4294967296 + ((x / 4294967296 * (y % 4294967296) + x % 4294967296 * (y % 4294967296) / 4294967296) % 4294967296 + x % 4294967296 * (y / 4294967296)) / 4294967296 < 18446744073709551616 := by omega
  go_enter Try.func39, Try.ntmps39
  go_wp2
  simp only [maskN x hx, maskN y hy, divN, mulN, addN, wrapN _ bd, wrapN _ bb', wrapN _ bt, maskN _ bt, wrapN _ bc', wrapN _ bw, wrapN _ ba', wrapN _ bh1, wrapN _ bh, wrapM (x * y)]
  rw [hhi]
  go_ret2
  exact ⟨rfl, rfl⟩

theorem mul64_any (a i b j : Nat) (w : World) :
    Calls Try.prog 39 #[.int .u64 (lb a i), .int .u64 (lb b j)] w fun e w' => e = .returned (.tuple #[.int .u64 (hiN a i b j : Nat), .int .u64 (loN a i b j : Nat)]) ∧ w = w' :=
  mul64_raw (a / B64 ^ i % B64) (b / B64 ^ j % B64) (Nat.mod_lt _ B64_pos) (Nat.mod_lt _ B64_pos) w

theorem add64_nn (x y : Nat) (w : World) :
    (callFunc 38 #[.int .u64 x, .int .u64 y, .int .u64 0]).run Try.prog w =
      .ok (.value (.tuple #[.int .u64 (((x + y) % B64 : Nat) : Int), .int .u64 (((x + y) / B64 : Nat) : Int)])) w := by
  rw [run_callFunc_extern (fn := Try.f38) (by kernel_rfl) (by kernel_rfl) (by kernel_rfl) (by kernel_rfl) (e := add64Entry) (by kernel_rfl), run_add64 _ _ _ (by omega) (by omega) (by omega) (by omega)]
  simp only [Result.andThen, Int.add_zero]
  rfl
theorem index_k (a k : Nat) (hk : k < 4) (w : World) : (Instr.index 24 (W a) (.int .i64 k)).run Try.prog w = .ok (.int .u64 (lb a k)) w := by
  match k, hk with
  | 0, _ => exact ix0 _ _ _ _ w
  | 1, _ => exact ix1 _ _ _ _ w
  | 2, _ => exact ix2 _ _ _ _ w
  | 3, _ => exact ix3 _ _ _ _ w

/-- Eight limbs. -/
def Lc (f : Nat → Nat) : Array Value := #[.int .u64 (f 0 : Nat), .int .u64 (f 1 : Nat), .int .u64 (f 2 : Nat), .int .u64 (f 3 : Nat), .int .u64 (f 4 : Nat), .int .u64 (f 5 : Nat), .int .u64 (f 6 : Nat), .int .u64 (f 7 : Nat)]
theorem Lc_get (f : Nat → Nat) (k : Nat) (hk : k < 8) : (Lc f)[k]? = some (.int .u64 (f k : Nat)) := by
  match k, hk with
  | 0, _ | 1, _ | 2, _ | 3, _ | 4, _ | 5, _ | 6, _ | 7, _ => rfl
theorem Lc_set (f : Nat → Nat) (k v : Nat) (hk : k < 8) : (Lc f).setIfInBounds k (.int .u64 (v : Nat)) = Lc (updN f k v) := by
  match k, hk with
  | 0, _ | 1, _ | 2, _ | 3, _ | 4, _ | 5, _ | 6, _ | 7, _ => rfl
theorem Lc_zero : Lc (fun _ => 0) = #[.int .u64 0, .int .u64 0, .int .u64 0, .int .u64 0, .int .u64 0, .int .u64 0, .int .u64 0, .int .u64 0] := rfl

set_option maxRecDepth 100000 in
set_option maxHeartbeats 4000000 in
theorem product_any (a b : Nat) (ha : a < MM) (hb : b < MM) (w : World) :
    Calls Try.prog 30 #[W a, W b] w fun e w' => e = .returned (.agg #[.int .u64 (lb (a * b) 0), .int .u64 (lb (a * b) 1), .int .u64 (lb (a * b) 2), .int .u64 (lb (a * b) 3), .int .u64 (lb (a * b) 4), .int .u64 (lb (a * b) 5), .int .u64 (lb (a * b) 6), .int .u64 (lb (a * b) 7)]) ∧ Below w.heap.size w w' := by
  have HA := Lib.hid ha
  have HB := Lib.hid hb
  clear ha hb
  go_enter Try.func30, Try.ntmps30
  go_wp2_with fail
  rw [← Lc_zero]
  have hB : Blk ((((w.alloc (.cells (Wc a) 24)).alloc (.cells (Wc b) 24)).alloc (.cells (Lc (fun _ => 0)) 61)).alloc (.cells (Lc (fun _ => 0)) 61)) (w.heap.size + 1) 24 (Wc b) := ((Blk.newS w _ _ _).alloc _).alloc _
  have hR : Blk ((((w.alloc (.cells (Wc a) 24)).alloc (.cells (Wc b) 24)).alloc (.cells (Lc (fun _ => 0)) 61)).alloc (.cells (Lc (fun _ => 0)) 61)) (w.heap.size + 1 + 1) 61 (Lc (fun _ => 0)) := by
    have h := Blk.newS (w.alloc (.cells (Wc a) 24)) (.cells (Wc b) 24) 61 (Lc (fun _ => 0))
    rw [World.size_alloc] at h
    exact h.alloc _
  have hL : Blk ((((w.alloc (.cells (Wc a) 24)).alloc (.cells (Wc b) 24)).alloc (.cells (Lc (fun _ => 0)) 61)).alloc (.cells (Lc (fun _ => 0)) 61)) (w.heap.size + 1 + 1 + 1) 61 (Lc (fun _ => 0)) := by
    have h := Blk.newS ((w.alloc (.cells (Wc a) 24)).alloc (.cells (Wc b) 24)) (.cells (Lc (fun _ => 0)) 61) 61 (Lc (fun _ => 0))
    rwa [World.size_alloc, World.size_alloc] at h
  have hW : Below w.heap.size w ((((w.alloc (.cells (Wc a) 24)).alloc (.cells (Wc b) 24)).alloc (.cells (Lc (fun _ => 0)) 61)).alloc (.cells (Lc (fun _ => 0)) 61)) := balloc (balloc (balloc (balloc (Below.refl _ _) _) _) _) _
  obtain ⟨W0, hW0⟩ : ∃ W0, (((w.alloc (.cells (Wc a) 24)).alloc (.cells (Wc b) 24)).alloc (.cells (Lc (fun _ => 0)) 61)).alloc (.cells (Lc (fun _ => 0)) 61) = W0 := ⟨_, rfl⟩
  rw [hW0] at hB hR hL hW ⊢
  clear hW0
  go_loopw [18] (fun i wr => ∃ (k : Nat) (f : Nat → Nat), k ≤ 4 ∧ i = .int .i64 k ∧ PRow a b k 0 0 f ∧ Blk wr (w.heap.size + 1) 24 (Wc b) ∧ Blk wr (w.heap.size + 1 + 1 + 1) 61 (Lc f) ∧ Blk wr (w.heap.size + 1 + 1) 61 (Lc (fun _ => 0)) ∧ Below w.heap.size w wr) (fun i _ => 4 - (intOf i).toNat)
  case atStart => exact ⟨0, _, by omega, rfl, PRow.start a b, hB, hL, hR, hW⟩
  case round =>
    clear hB hL hR hW
    obtain ⟨k, f, hk, rfl, hP, hB, hL, hR, hW⟩ := hrel
    by_cases hlt : k < 4
    · have hix := index_k a k hlt
      have q0 := (cell_of_row wr _ 0 _ _ _ hB).trans (wc_get b 0 (by omega))
      have q1 := (cell_of_row wr _ 1 _ _ _ hB).trans (wc_get b 1 (by omega))
      have q2 := (cell_of_row wr _ 2 _ _ _ hB).trans (wc_get b 2 (by omega))
      have q3 := (cell_of_row wr _ 3 _ _ _ hB).trans (wc_get b 3 (by omega))
      have HP := Lib.hid hP
      have HB2 := Lib.hid hB
      have HL2 := Lib.hid hL
      have HR2 := Lib.hid hR
      have HW2 := Lib.hid hW
      clear hP hB hL hR hW
      go_wp2_with fail
      clear q0 q1 q2 q3 hix
      have hd : decide ((k : Int) < 4) = true := by simp; omega
      rw [hd]
      clear hd
      go_loopw [23, 8] (fun j ov wr' => ∃ (m : Nat) (f' : Nat → Nat) (over : Nat), m ≤ 4 ∧ j = .int .i64 m ∧ ov = .int .u64 over ∧ PRow a b k m over f' ∧ Blk wr' (w.heap.size + 1) 24 (Wc b) ∧ Blk wr' (w.heap.size + 1 + 1 + 1) 61 (Lc f') ∧ Blk wr' (w.heap.size + 1 + 1) 61 (Lc (fun _ => 0)) ∧ Below w.heap.size w wr') (fun j _ _ => 4 - (intOf j).toNat)
      case atStart => exact ⟨0, f, 0, by omega, rfl, rfl, HP.out, HB2.out, HL2.out, HR2.out, HW2.out⟩
      case round =>
        clear HP HB2 HL2 HR2 HW2
        obtain ⟨m, f', over, hm, rfl, rfl, hP, hB, hL, hR, hW⟩ := hrel
        by_cases hml : m < 4
        · have hjx := index_k b m hml
          have hst := hP.step hlt hml
          have hM := mul64_any a k b m
          have e1 : a / B64 ^ k % B64 * (b / B64 ^ m % B64) / B64 = hiN a k b m := rfl
          have e2 : a / B64 ^ k % B64 * (b / B64 ^ m % B64) % B64 = loN a k b m := rfl
          rw [e1, e2] at hst
          clear e1 e2
          generalize hiN a k b m = hi at hst hM
          generalize loN a k b m = lo at hst hM
          have hA1 := add64_nn lo over
          have hA2 := add64_nn (f' (k + m)) ((lo + over) % B64)
          generalize (lo + over) % B64 = lw at hst hA1 hA2
          generalize (lo + over) / B64 = c1 at hst hA1
          generalize (f' (k + m) + lw) % B64 = he at hst hA2
          generalize (f' (k + m) + lw) / B64 = c2 at hst hA2
          have ho : hi + c1 + c2 < 18446744073709551616 := hst.olt
          have w1 : IntKind.u64.wrap ((hi : Int) + (c1 : Int)) = (hi : Int) + (c1 : Int) := by rw [IntKind.wrap_u64]; omega
          have w2 : IntKind.u64.wrap ((hi : Int) + (c1 : Int) + (c2 : Int)) = (hi : Int) + (c1 : Int) + (c2 : Int) := by rw [IntKind.wrap_u64]; omega
          have g1 : IntKind.i64.wrap ((k : Int) + (m : Int)) = (k : Int) + (m : Int) := IntWalk.i64_in _ (by omega)
          have g2 : ((k : Int) + (m : Int)).toNat = k + m := by omega
          have g3 : (k : Int) + (m : Int) < 8 := by omega
          have g4 : 0 ≤ (k : Int) + (m : Int) := by omega
          have cL := (cell_of_row wr _ (k + m) _ _ _ hL).trans (Lc_get f' (k + m) (by omega))
          have fL := frozen_of_row wr _ (k + m) _ _ hL
          have HST := Lib.hid hst
          have HB2 := Lib.hid hB
          have HL2 := Lib.hid hL
          have HR2 := Lib.hid hR
          have HW2 := Lib.hid hW
          clear hP hst hB hL hR hW
          go_wp2_with (first | (go_at_call 39; refine (hM _).mono ?_; rintro e _ ⟨rfl, rfl⟩) | fail)
          go_roundw
          case rel =>
            have hG : wr.grownBy (wr.setCell ⟨w.heap.size + 1 + 1 + 1, k + m, none⟩ (.int .u64 he)) (some (w.heap.size + 1 + 1 + 1)) := grown_set' (grown_refl wr _) _ _
            refine ⟨m + 1, updN f' (k + m) he, hi + c1 + c2, by omega, by go_num, by simp, HST.out, HB2.out.kept hG (by simp), ?_, HR2.out.kept hG (by simp), HW2.out.setCell (p := ⟨w.heap.size + 1 + 1 + 1, k + m, none⟩) (by simp; omega) _⟩
            have h := heap_setCell_same wr _ (k + m) _ _ (.int .u64 he) HL2.out
            rw [Lc_set f' (k + m) he (by omega)] at h
            exact h
          case measure => simp [intOf]; omega
        · obtain rfl : m = 4 := by omega
          have hst := hP.row hlt HB.out
          have hov := hP.olt
          have g1 : IntKind.i64.wrap ((k : Int) + 4) = (k : Int) + 4 := IntWalk.i64_in _ (by omega)
          have g2 : ((k : Int) + 4).toNat = k + 4 := by omega
          have g3 : (k : Int) + 4 < 8 := by omega
          have g4 : 0 ≤ (k : Int) + 4 := by omega
          have g5 : IntKind.i64.wrap ((k : Int) + 1) = (k : Int) + 1 := IntWalk.i64_in _ (by omega)
          have cL := (cell_of_row wr _ (k + 4) _ _ _ hL).trans (Lc_get f' (k + 4) (by omega))
          have fL := frozen_of_row wr _ (k + 4) _ _ hL
          have HST := Lib.hid hst
          have HB2 := Lib.hid hB
          have HL2 := Lib.hid hL
          have HR2 := Lib.hid hR
          have HW2 := Lib.hid hW
          clear hP hst hB hL hR hW hov
          go_wp2
          go_roundw
          case rel =>
            have hG : wr.grownBy (wr.setCell ⟨w.heap.size + 1 + 1 + 1, k + 4, none⟩ (.int .u64 over)) (some (w.heap.size + 1 + 1 + 1)) := grown_set' (grown_refl wr _) _ _
            refine ⟨k + 1, updN f' (k + 4) over, by omega, by simp, HST.out, HB2.out.kept hG (by simp), ?_, HR2.out.kept hG (by simp), HW2.out.setCell (p := ⟨w.heap.size + 1 + 1 + 1, k + 4, none⟩) (by simp; omega) _⟩
            have h := heap_setCell_same wr _ (k + 4) _ _ (.int .u64 over) HL2.out
            rw [Lc_set f' (k + 4) over (by omega)] at h
            exact h
          case measure => simp [intOf]; omega
    · obtain rfl : k = 4 := by omega
      have hd := hP.done HA.out
      have c0 := (cell_of_row wr _ 0 _ _ _ hL).trans (Lc_get f 0 (by omega))
      rw [hd 0 (by omega), natLb] at c0
      have r0 := (cell_of_row wr _ 0 _ _ _ hR).trans (Lc_get _ 0 (by omega))
      have f0 := frozen_of_row wr _ 0 _ _ hR
      have c1 := (cell_of_row wr _ 1 _ _ _ hL).trans (Lc_get f 1 (by omega))
      rw [hd 1 (by omega), natLb] at c1
      have r1 := (cell_of_row wr _ 1 _ _ _ hR).trans (Lc_get _ 1 (by omega))
      have f1 := frozen_of_row wr _ 1 _ _ hR
      have c2 := (cell_of_row wr _ 2 _ _ _ hL).trans (Lc_get f 2 (by omega))
      rw [hd 2 (by omega), natLb] at c2
      have r2 := (cell_of_row wr _ 2 _ _ _ hR).trans (Lc_get _ 2 (by omega))
      have f2 := frozen_of_row wr _ 2 _ _ hR
      have c3 := (cell_of_row wr _ 3 _ _ _ hL).trans (Lc_get f 3 (by omega))
      rw [hd 3 (by omega), natLb] at c3
      have r3 := (cell_of_row wr _ 3 _ _ _ hR).trans (Lc_get _ 3 (by omega))
      have f3 := frozen_of_row wr _ 3 _ _ hR
      have c4 := (cell_of_row wr _ 4 _ _ _ hL).trans (Lc_get f 4 (by omega))
      rw [hd 4 (by omega), natLb] at c4
      have r4 := (cell_of_row wr _ 4 _ _ _ hR).trans (Lc_get _ 4 (by omega))
      have f4 := frozen_of_row wr _ 4 _ _ hR
      have c5 := (cell_of_row wr _ 5 _ _ _ hL).trans (Lc_get f 5 (by omega))
      rw [hd 5 (by omega), natLb] at c5
      have r5 := (cell_of_row wr _ 5 _ _ _ hR).trans (Lc_get _ 5 (by omega))
      have f5 := frozen_of_row wr _ 5 _ _ hR
      have c6 := (cell_of_row wr _ 6 _ _ _ hL).trans (Lc_get f 6 (by omega))
      rw [hd 6 (by omega), natLb] at c6
      have r6 := (cell_of_row wr _ 6 _ _ _ hR).trans (Lc_get _ 6 (by omega))
      have f6 := frozen_of_row wr _ 6 _ _ hR
      have c7 := (cell_of_row wr _ 7 _ _ _ hL).trans (Lc_get f 7 (by omega))
      rw [hd 7 (by omega), natLb] at c7
      have r7 := (cell_of_row wr _ 7 _ _ _ hR).trans (Lc_get _ 7 (by omega))
      have f7 := frozen_of_row wr _ 7 _ _ hR
      have HW2 := Lib.hid hW
      clear hP hd hB hL hR hW
      go_wp2
      exact bodyPost_ret (v := .agg #[.int .u64 (lb (a * b) 0), .int .u64 (lb (a * b) 1), .int .u64 (lb (a * b) 2), .int .u64 (lb (a * b) 3), .int .u64 (lb (a * b) 4), .int .u64 (lb (a * b) 5), .int .u64 (lb (a * b) 6), .int .u64 (lb (a * b) 7)]) (by simp [results, Try.results30, go_sem, r0, r1, r2, r3, r4, r5, r6, r7]) rfl ⟨rfl, ((((((((HW2.out.setCell (p := ⟨w.heap.size + 1 + 1, 0, none⟩) (by simp; omega) _).setCell (p := ⟨w.heap.size + 1 + 1, 1, none⟩) (by simp; omega) _).setCell (p := ⟨w.heap.size + 1 + 1, 2, none⟩) (by simp; omega) _).setCell (p := ⟨w.heap.size + 1 + 1, 3, none⟩) (by simp; omega) _).setCell (p := ⟨w.heap.size + 1 + 1, 4, none⟩) (by simp; omega) _).setCell (p := ⟨w.heap.size + 1 + 1, 5, none⟩) (by simp; omega) _).setCell (p := ⟨w.heap.size + 1 + 1, 6, none⟩) (by simp; omega) _).setCell (p := ⟨w.heap.size + 1 + 1, 7, none⟩) (by simp; omega) _)⟩
end Go.Proofs.Ythdapmceafnhgaa
