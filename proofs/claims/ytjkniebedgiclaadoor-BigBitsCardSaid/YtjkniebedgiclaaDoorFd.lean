/- big: fold over digits, and add. -/
import Derived.Test.YtjkniebedgiclaaDoorFc
namespace Go.Proofs.YtjkniebedgiclaaDoor
open Go.RowKit Go.Shelf

theorem Chg.cell {M : Nat → Prop} {w X : World} (h : Chg M w X) {b : Nat} (j : Nat) (hb : b < w.heap.size) (hm : ¬ M b) : X.cell? ⟨b, j, none⟩ = w.cell? ⟨b, j, none⟩ := cell_heap (h.block b hb hm)
/-- A row of digits with t times another's on its first k from o on. -/
def laid (F G : Nat → Nat) (o p t : Nat) : Nat → Nat → Nat
  | 0 => F
  | k + 1 => upf (laid F G o p t k) (o + k) ((F (o + k) + G (p + k) * t + cyr (fun i => F (o + i)) (fun i => G (p + i)) t k) % B64)
theorem laid_out (F G : Nat → Nat) (o p t : Nat) : ∀ k j, j < o ∨ o + k ≤ j → laid F G o p t k j = F j
  | 0, _, _ => rfl
  | k + 1, j, h => by rw [laid, upf, if_neg (by omega)]; exact laid_out F G o p t k j (by omega)
theorem laid_in (F G : Nat → Nat) (o p t : Nat) : ∀ k i, i < k → laid F G o p t k (o + i) = (F (o + i) + G (p + i) * t + cyr (fun i => F (o + i)) (fun i => G (p + i)) t i) % B64
  | 0, i, h => by omega
  | k + 1, i, h => by
    by_cases e : i = k
    · subst e; rw [laid, upf, if_pos rfl]
    · rw [laid, upf, if_neg (by omega)]; exact laid_in F G o p t k i (by omega)
theorem laid_sum (F G : Nat → Nat) (o p t n : Nat) (hf : ∀ i, i < n → F (o + i) < B64) (hg : ∀ i, i < n → G (p + i) < B64) :
    dv (fun i => laid F G o p t n (o + i)) n + cyr (fun i => F (o + i)) (fun i => G (p + i)) t n * B64 ^ n = dv (fun i => F (o + i)) n + t * dv (fun i => G (p + i)) n := by
  have e : dv (fun i => laid F G o p t n (o + i)) n = dv (dg (dv (fun i => F (o + i)) n + t * dv (fun i => G (p + i)) n)) n :=
    dv_congr n fun i hi => by rw [laid_in F G o p t n i hi, cyr_dg (fun i => F (o + i)) (fun i => G (p + i)) t i n hi hf hg]
  rw [e, dv_dg]
  unfold cyr
  have h := Nat.mod_add_div (dv (fun i => F (o + i)) n + t * dv (fun i => G (p + i)) n) (B64 ^ n)
  rw [Nat.mul_comm] at h
  rw [Nat.mul_comm ((dv (fun i => F (o + i)) n + t * dv (fun i => G (p + i)) n) / B64 ^ n)]
  rw [Nat.mul_comm] at h
  exact h

set_option maxRecDepth 100000 in
set_option maxHeartbeats 2000000 in
theorem fold_any (t b o n N cap b2 p N2 c2 bt bo ba : Nat) (F G : Nat → Nat) (ht : t < B64) (hn : n ≤ 1000) (hN : o + n ≤ N) (hN2 : p + n ≤ N2) (w : World)
    (h1 : Blk w bt 72 #[.int .u64 t]) (h2 : Blk w bo 54 #[.slice (some ⟨b, o, none⟩) n cap]) (h3 : Blk w ba 3 #[.int .i64 0]) (h4 : Dk w b N F) (h5 : Dk w b2 N2 G)
    (e0 : b ≠ bo) (e1 : b ≠ ba) (e2 : b2 ≠ b) (e3 : b2 ≠ ba) (e4 : bt ≠ b) (e5 : bt ≠ ba) (e6 : bo ≠ ba) :
    Calls Tryd.prog 52 #[.int .u64 0, .func (.func 53) #[] #[.pointer (some ⟨bt, 0, none⟩), .pointer (some ⟨bo, 0, none⟩), .pointer (some ⟨ba, 0, none⟩)], .slice (some ⟨b2, p, none⟩) n c2] w fun e w' =>
      e = .returned (.int .u64 (cyr (fun i => F (o + i)) (fun i => G (p + i)) t n : Nat)) ∧ Dk w' b N (laid F G o p t n) ∧ Chg (fun k => k = b ∨ k = ba) w w' := by
  have HA := Lib.hid (And.intro h1 (And.intro h2 (And.intro h4 h5)))
  have HE := Lib.hid (And.intro e0 (And.intro e1 (And.intro e2 (And.intro e3 (And.intro e4 (And.intro e5 e6))))))
  have H3 := Lib.hid h3
  have z0 := cyr_zero (fun i => F (o + i)) (fun i => G (p + i)) t
  have HZ := Lib.hid z0
  clear h1 h2 h3 h4 h5 e0 e1 e2 e3 e4 e5 e6 z0
  go_enter Tryd.func52, Tryd.ntmps52
  go_wp2_with fail
  go_loopw [0, 11] (fun s i wr => ∃ k : Nat, k ≤ n ∧ i = .int .i64 k ∧ s = .int .u64 (cyr (fun i => F (o + i)) (fun i => G (p + i)) t k : Nat) ∧ Dk wr b N (laid F G o p t k) ∧ Blk wr ba 3 #[.int .i64 k] ∧ Chg (fun k => k = b ∨ k = ba) w wr) (fun _ i _ => n - (intOf i).toNat)
  case atStart => exact ⟨0, Nat.zero_le _, rfl, by rw [HZ.out]; rfl, HA.out.2.2.1, H3.out, Chg.refl _ _⟩
  case round =>
    obtain ⟨k, hk, rfl, rfl, hD, hB, hC⟩ := hrel
    by_cases hlt : k < n
    · obtain ⟨h1, h2, h4, h5⟩ := HA.out
      obtain ⟨e0, e1, e2, e3, e4, e5, e6⟩ := HE.out
      have hc := (hC.cell (p + k) h5.lt (not_or e2 e3)).trans (h5.cell (p + k) (by omega))
      have hg := h5.dig (p + k) (by omega)
      have hcl := cyr_lt (fun i => F (o + i)) (fun i => G (p + i)) t k ht (fun i hi => h4.dig _ (by omega)) (fun i hi => h5.dig _ (by omega))
      have hL := lay_any (cyr (fun i => F (o + i)) (fun i => G (p + i)) t k) (G (p + k)) t b o n cap N k bt bo ba (laid F G o p t k) hcl hg ht hlt hn hN wr (h1.chg hC (not_or e4 e5)) (h2.chg hC (not_or (Ne.symm e0) e6)) hB hD e0 e1
      have es := cyr_succ (fun i => F (o + i)) (fun i => G (p + i)) t k
      rw [laid_out F G o p t k (o + k) (by omega), ← es] at hL
      have HL := Lib.hid hL
      have HC := Lib.hid hC
      have hkI : (k : Int) < (n : Int) := by omega
      have hk0 : (0 : Int) ≤ (k : Int) := by omega
      have w3 : IntKind.i64.wrap ((k : Int) + 1) = ((k + 1 : Nat) : Int) := IntWalk.i64_in _ (by omega)
      obtain ⟨gk, hgk⟩ : ∃ gk, G (p + k) = gk := ⟨_, rfl⟩
      rw [hgk] at hc HL
      have HK := Lib.hid hgk
      clear hL es hcl hg hgk h1 h2 h4 h5 e0 e1 e2 e3 e4 e5 e6 hD hB hC
      go_wp2_with (first | (go_at_call 53; refine HL.out.mono ?_; rintro e w1 ⟨rfl, hd, hb, hg⟩; have HX := Lib.hid (And.intro hd (And.intro hb hg)); clear hd hb hg) | fail)
      exact ⟨⟨k + 1, by omega, by go_num, rfl, by rw [laid, HK.out]; exact HX.out.1, HX.out.2.1, HC.out.trans HX.out.2.2 (fun _ _ h => h)⟩, by simp [intOf]; omega⟩
    · obtain rfl : k = n := by omega
      have HX := Lib.hid (And.intro hD hC)
      clear hD hB hC
      go_wp2_with fail
      go_ret
      exact ⟨rfl, HX.out⟩

set_option maxRecDepth 100000 in
set_option maxHeartbeats 2000000 in
theorem add_any (t b o n N cap b2 p N2 c2 : Nat) (F G : Nat → Nat) (ht : t < B64) (hn : n ≤ 1000) (hN : o + n ≤ N) (hN2 : p + n ≤ N2) (w : World) (h4 : Dk w b N F) (h5 : Dk w b2 N2 G) (e2 : b2 ≠ b) :
    Calls Tryd.prog 39 #[.slice (some ⟨b, o, none⟩) n cap, .slice (some ⟨b2, p, none⟩) n c2, .int .u64 t] w fun e w' =>
      ∃ (c : Nat) (F' : Nat → Nat), e = .returned (.int .u64 c) ∧ c < B64 ∧ Dk w' b N F' ∧ (∀ j, j < o ∨ o + n ≤ j → F' j = F j) ∧ dv (fun i => F' (o + i)) n + c * B64 ^ n = dv (fun i => F (o + i)) n + t * dv (fun i => G (p + i)) n ∧ Chg (fun k => k = b) w w' := by
  have hb := h4.lt
  have hb2 := h5.lt
  obtain ⟨X, hX⟩ : ∃ X, ((w.alloc (.cells #[.slice (some ⟨b, o, none⟩) n cap] 54)).alloc (.cells #[.int .u64 t] 72)).alloc (.cells #[.int .i64 0] 3) = X := ⟨_, rfl⟩
  have hC : Chg (fun _ => False) w X := by rw [← hX]; exact (((Chg.refl _ w).then_alloc _).then_alloc _).then_alloc _
  have b1 : Blk X w.heap.size 54 #[.slice (some ⟨b, o, none⟩) n cap] := by rw [← hX]; exact ((Blk.new w _ _).alloc _).alloc _
  have b2' : Blk X (w.heap.size + 1) 72 #[.int .u64 t] := by rw [← hX]; exact (Blk.newS w _ _ _).alloc _
  have b3 : Blk X (w.heap.size + 1 + 1) 3 #[.int .i64 0] := by
    rw [← hX]
    have h := Blk.newS (w.alloc (.cells #[.slice (some ⟨b, o, none⟩) n cap] 54)) (.cells #[.int .u64 t] 72) 3 #[.int .i64 0]
    rwa [World.size_alloc] at h
  have hF := fold_any t b o n N cap b2 p N2 c2 (w.heap.size + 1) w.heap.size (w.heap.size + 1 + 1) F G ht hn hN hN2 X b2' b1 b3 (h4.chg hC (fun h => h)) (h5.chg hC (fun h => h)) (by omega) (by omega) e2 (by omega) (by omega) (by omega) (by omega)
  have HF := Lib.hid hF
  have HC := Lib.hid hC
  have HM := Lib.hid (And.intro (laid_sum F G o p t n (fun i hi => h4.dig _ (by omega)) (fun i hi => h5.dig _ (by omega))) (And.intro (cyr_lt (fun i => F (o + i)) (fun i => G (p + i)) t n ht (fun i hi => h4.dig _ (by omega)) (fun i hi => h5.dig _ (by omega))) (laid_out F G o p t n)))
  have HX := Lib.hid hX
  clear hF hC b1 b2' b3 h4 h5 hX e2 hb hb2
  go_enter Tryd.func39, Tryd.ntmps39
  go_wp2_with fail
  rw [HX.out]
  refine HF.out.mono ?_
  rintro e w1 ⟨rfl, hd, hg⟩
  have HY := Lib.hid (And.intro hd hg)
  clear hd hg
  go_wp2_with fail
  go_ret
  exact ⟨_, _, rfl, HM.out.2.1, HY.out.1, HM.out.2.2, HM.out.1, (HC.out.mono (fun _ _ h => h.elim)).trans HY.out.2 (fun k hk h => h.elim id (fun e => by omega))⟩
end Go.Proofs.YtjkniebedgiclaaDoor
