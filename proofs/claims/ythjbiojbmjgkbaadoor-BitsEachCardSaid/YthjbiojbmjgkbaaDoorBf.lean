/- bits: a word's bits moved (from). -/
import Derived.Test.YthjbiojbmjgkbaaDoorBe
namespace Go.Proofs.YthjbiojbmjgkbaaDoor
open Go.RowKit
attribute [local go_sem] ix0 ix1 ix2 ix3
theorem i64_and63 (n : Int) : bits .and .i64 n 63 = n % 64 := by
  show IntKind.i64.wrap ((BitVec.ofInt 64 n &&& BitVec.ofInt 64 (63 : Int)).toNat : Int) = _
  have hn : (BitVec.ofInt 64 n).toNat = (n % 18446744073709551616).toNat := by rw [BitVec.toNat_ofInt]; rfl
  rw [BitVec.toNat_and, hn, show (BitVec.ofInt 64 (63 : Int)).toNat = 2 ^ 6 - 1 from by decide, Nat.and_two_pow_sub_one_eq_mod]
  rw [IntWalk.i64_in _ (by omega)]
  omega
/-- But for new blocks, only the cell k of the block R has been written. -/
def HeldK (W1 : World) (R : Nat) (t : TypeId) (cs : Array Value) (k : Nat) (w' : World) : Prop := W1.grownBy w' (some R) ∧ ∃ v, Blk w' R t (cs.setIfInBounds k v)
theorem HeldK.start {W1 : World} {R k : Nat} {t : TypeId} {cs : Array Value} (hk : k < cs.size) (h : Blk W1 R t cs) : HeldK W1 R t cs k W1.drew := by
  refine ⟨grown_drew (grown_refl W1 R), cs[k], ?_⟩
  have e : cs.setIfInBounds k cs[k] = cs := by
    apply Array.ext_getElem?
    intro i
    by_cases h : k = i
    · subst h; rw [Array.getElem?_setIfInBounds_self_of_lt hk, Array.getElem?_eq_getElem hk]
    · rw [Array.getElem?_setIfInBounds_ne h]
  rw [e]; exact h
theorem HeldK.call {W1 w' w'' : World} {R k : Nat} {t : TypeId} {cs : Array Value} (c : Below w'.heap.size w' w'') (h : HeldK W1 R t cs k w') : HeldK W1 R t cs k w'' := by
  obtain ⟨hg, v, hb⟩ := h
  exact ⟨grown_below hg c, v, hb.block_below c⟩
theorem HeldK.set {W1 w' : World} {R k : Nat} {t : TypeId} {cs : Array Value} (h : HeldK W1 R t cs k w') (v : Value) : HeldK W1 R t cs k (w'.setCell ⟨R, k, none⟩ v) := by
  obtain ⟨hg, v', hb⟩ := h
  refine ⟨grown_set' hg k v, v, ?_⟩
  have h2 := heap_setCell_same w' R k _ _ v hb
  rwa [Array.setIfInBounds_setIfInBounds] at h2
theorem HeldK.after {W1 w' : World} {R k : Nat} {t : TypeId} {cs : Array Value} (h : HeldK W1 R t cs k w') (v : Value) : Blk (w'.setCell ⟨R, k, none⟩ v) R t (cs.setIfInBounds k v) := by
  obtain ⟨hg, v', hb⟩ := h
  have h2 := heap_setCell_same w' R k _ _ v hb
  rwa [Array.setIfInBounds_setIfInBounds] at h2
theorem HeldK.cell {W1 w' : World} {R k : Nat} {t : TypeId} {cs : Array Value} (hk : k < cs.size) (h : HeldK W1 R t cs k w') : w'.cell? ⟨R, k, none⟩ = some (cellv w' ⟨R, k, none⟩) := by
  obtain ⟨hg, v', hb⟩ := h
  have e := cell_of_row w' R k _ _ _ hb
  unfold cellv
  rw [e, Array.getElem?_setIfInBounds_self_of_lt hk]; rfl
theorem HeldK.frozen {W1 w' : World} {R k : Nat} {t : TypeId} {cs : Array Value} (h : HeldK W1 R t cs k w') : w'.frozen? ⟨R, k, none⟩ = false := by
  obtain ⟨hg, v', hb⟩ := h
  exact frozen_of_row w' R k _ _ hb
theorem HeldK.at {W1 w' : World} {R k g j : Nat} {t t' : TypeId} {cs cs' : Array Value} {v : Value} (h : HeldK W1 R t cs k w') (hb : Blk W1 g t' cs') (hne : g ≠ R) (hv : cs'[j]? = some v) : w'.cell? ⟨g, j, none⟩ = some v :=
  (cell_of_row w' g j _ _ _ (hb.kept h.1 (fun e => hne (Option.some.inj e)))).trans hv

/-- The first k numbers of a word, noughts above them. -/
def fC (x k : Nat) : Array Value := #[.int .u64 (if 0 < k then lb x 0 else 0), .int .u64 (if 1 < k then lb x 1 else 0), .int .u64 (if 2 < k then lb x 2 else 0), .int .u64 (if 3 < k then lb x 3 else 0)]
theorem fC_size (x k : Nat) : (fC x k).size = 4 := rfl
theorem fC_zero (x : Nat) : fC x 0 = Zc := rfl
theorem fC_four (x : Nat) : fC x 4 = Wc x := rfl
theorem fC_set (x k : Nat) (hk : k < 4) : (fC x k).setIfInBounds k (.int .u64 (lb x k)) = fC x (k + 1) := by
  match k, hk with
  | 0, _ | 1, _ | 2, _ | 3, _ => rfl
attribute [local irreducible] lb numI
set_option maxRecDepth 100000 in
set_option maxHeartbeats 2000000 in
theorem from_any (a : Nat) (F : Value) (x : Int) (hF : Fills F x) (q : Int) (r : Nat) (hq : -4 ≤ q ∧ q ≤ 3) (hr : r < 64) (res : Nat)
    (hres : ∀ i : Nat, i < 4 → bits .or .u64 (numI a x (q + i) / 2 ^ r) (IntKind.u64.wrap (numI a x (q + i + 1) * 2 ^ (64 - r))) = lb res i) (w : World) :
    Calls Tryd.prog 75 #[Dv a F, .int .i64 (64 * q + r)] w fun e w' => e = .returned (W res) ∧ Below w.heap.size w w' := by
  have A := (((Blk.new w 64 (Df a F)).alloc (.cells Zc 25)).alloc (.cells Zc 25))
  have O := (Blk.newS w (.cells (Df a F) 64) 25 Zc).alloc (.cells Zc 25)
  have R : Blk (((w.alloc (.cells (Df a F) 64)).alloc (.cells Zc 25)).alloc (.cells Zc 25)) (w.heap.size + 1 + 1) 25 Zc := by
    have h := Blk.newS (w.alloc (.cells (Df a F) 64)) (.cells Zc 25) 25 Zc
    rwa [World.size_alloc] at h
  have hW : Below w.heap.size w (((w.alloc (.cells (Df a F) 64)).alloc (.cells Zc 25)).alloc (.cells Zc 25)) := balloc (balloc (balloc (Below.refl _ _) _) _) _
  have HA := Lib.hid A
  have HO := Lib.hid O
  have HR := Lib.hid R
  have HW := Lib.hid hW
  have HN := Lib.hid (number_any a F x hF)
  have HRES := Lib.hid hres
  clear A O R hW hF hres
  have e1 : bits .and .i64 (64 * q + (r : Int)) 63 = r := by rw [i64_and63]; omega
  have e2 : IntKind.i64.wrap (64 * q + (r : Int) - r) = 64 * q := by rw [show 64 * q + (r : Int) - r = 64 * q by omega]; exact IntWalk.i64_in _ (by omega)
  have e3 : (64 * q).tdiv 64 = q := Int.mul_tdiv_cancel_left q (by omega)
  have e4 : IntKind.i64.wrap q = q := IntWalk.i64_in _ (by omega)
  go_enter Tryd.func75, Tryd.ntmps75
  go_wp2_with fail
  go_loopw [15] (fun i wr => ∃ k : Nat, k ≤ 4 ∧ i = .int .i64 k ∧ Blk wr w.heap.size 64 (Df a F) ∧ Blk wr (w.heap.size + 1) 25 Zc ∧ Blk wr (w.heap.size + 1 + 1) 25 (fC res k) ∧ Below w.heap.size w wr) (fun i _ => 4 - (intOf i).toNat)
  case atStart => exact ⟨0, by omega, rfl, HA.out, HO.out, HR.out, HW.out⟩
  case round =>
    clear HA HO HR HW
    obtain ⟨k, hk, rfl, A, O, R, hW⟩ := hrel
    by_cases hlt : k < 4
    · have g1 : IntKind.i64.wrap (q + (k : Int)) = q + k := IntWalk.i64_in _ (by omega)
      have g2 : IntKind.i64.wrap (q + (k : Int) + 1) = q + k + 1 := IntWalk.i64_in _ (by omega)
      have g3 : IntKind.i64.wrap (64 - (r : Int)) = 64 - r := IntWalk.i64_in _ (by omega)
      have g4 : (0 : Int) ≤ 64 - r := by omega
      have g5 : (64 - (r : Int)).toNat = 64 - r := by omega
      have HX := Lib.hid (And.intro A (And.intro O (And.intro R hW)))
      clear A O R hW
      go_wp2_with fail
      obtain ⟨A, O, R, hW⟩ := HX.out
      clear HX
      have cA0 : ∀ w', HeldK wr (w.heap.size + 1 + 1) 25 (fC res k) k w' → w'.cell? ⟨w.heap.size, 0, none⟩ = some (.int .u64 (lb a 0)) := fun w' h => h.at A (by omega) rfl
      have cA1 : ∀ w', HeldK wr (w.heap.size + 1 + 1) 25 (fC res k) k w' → w'.cell? ⟨w.heap.size, 1, none⟩ = some (.int .u64 (lb a 1)) := fun w' h => h.at A (by omega) rfl
      have cA2 : ∀ w', HeldK wr (w.heap.size + 1 + 1) 25 (fC res k) k w' → w'.cell? ⟨w.heap.size, 2, none⟩ = some (.int .u64 (lb a 2)) := fun w' h => h.at A (by omega) rfl
      have cA3 : ∀ w', HeldK wr (w.heap.size + 1 + 1) 25 (fC res k) k w' → w'.cell? ⟨w.heap.size, 3, none⟩ = some (.int .u64 (lb a 3)) := fun w' h => h.at A (by omega) rfl
      have cA4 : ∀ w', HeldK wr (w.heap.size + 1 + 1) 25 (fC res k) k w' → w'.cell? ⟨w.heap.size, 4, none⟩ = some F := fun w' h => h.at A (by omega) rfl
      have cR : ∀ w', HeldK wr (w.heap.size + 1 + 1) 25 (fC res k) k w' → w'.cell? ⟨w.heap.size + 1 + 1, k, none⟩ = some (cellv w' ⟨w.heap.size + 1 + 1, k, none⟩) := fun w' h => h.cell (by rw [fC_size]; exact hlt)
      have fR : ∀ w', HeldK wr (w.heap.size + 1 + 1) 25 (fC res k) k w' → w'.frozen? ⟨w.heap.size + 1 + 1, k, none⟩ = false := fun w' h => h.frozen
      have h0 : HeldK wr (w.heap.size + 1 + 1) 25 (fC res k) k wr.drew := HeldK.start (by rw [fC_size]; exact hlt) R
      have HX := Lib.hid (And.intro A (And.intro O (And.intro R hW)))
      clear A O R hW
      go_region_held3 (fun w' => HeldK wr (w.heap.size + 1 + 1) 25 (fC res k) k w') (first | assumption | exact HeldK.call (by assumption) (by assumption) | exact HeldK.set (by assumption) _)
        (first | (go_at_call 83; refine (HN.out _ _).mono ?_; rintro e wk ⟨rfl, hk⟩; have hH : HeldK wr (w.heap.size + 1 + 1) 25 (fC res k) k wk := HeldK.call hk (by assumption)))
      all_goals
        rename_i hLast
        have hF2 : HeldK wr (w.heap.size + 1 + 1) 25 (fC res k) k wk := by assumption
        obtain ⟨A, O, R, hW⟩ := HX.out
        have hv := HRES.out k hlt
        have hG := grown_set' hF2.1 k (.int .u64 (bits .or .u64 (numI a x (q + k) / 2 ^ r) (IntKind.u64.wrap (numI a x (q + k + 1) * 2 ^ (64 - r)))))
        have hR := hF2.after (.int .u64 (bits .or .u64 (numI a x (q + k) / 2 ^ r) (IntKind.u64.wrap (numI a x (q + k + 1) * 2 ^ (64 - r)))))
        have hE := Lib.hid (And.intro (A.kept hG (by intro e; injection e; omega)) (And.intro (O.kept hG (by intro e; injection e; omega)) (And.intro (show Blk _ (w.heap.size + 1 + 1) 25 (fC res (k + 1)) by rw [← fC_set res k hlt, ← hv]; exact hR) (step_world hW hG (Nat.le_refl _) (by omega)))))
        clear hG hR hv A O R hW HX hF2 cA0 cA1 cA2 cA3 cA4 cR fR h0
        go_wp2
        go_roundw
        case rel => exact ⟨k + 1, by omega, by go_num, hE.out⟩
        case measure => simp [intOf]; omega
    · obtain rfl : k = 4 := by omega
      rw [fC_four] at R
      obtain ⟨c0, c1, c2, c3, _, _, _, _⟩ := R.get4
      obtain ⟨o0, o1, o2, o3, f0, f1, f2, f3⟩ := O.get4
      have HWW := Lib.hid hW
      clear A O R hW
      go_wp2
      exact bodyPost_ret (v := W res) (by simp [results, Tryd.results75, go_sem, o0, o1, o2, o3]) rfl ⟨rfl, step_world HWW.out (grown_set4 wr (w.heap.size + 1) _ _ _ _) (Nat.le_refl _) (by omega)⟩
end Go.Proofs.YthjbiojbmjgkbaaDoor
