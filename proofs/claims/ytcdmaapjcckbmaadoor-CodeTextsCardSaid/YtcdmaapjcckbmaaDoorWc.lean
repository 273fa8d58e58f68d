/- Layer word: the product of two numbers of 64 bits; a number added at a place of a word under way. -/
import Derived.Test.YtcdmaapjcckbmaaDoorWb
import Derived.Lib.Mul64
import Derived.Laws.Bits64b
import Derived.RegionTactic
import Derived.ChangeAlike
namespace Go.Proofs.YtcdmaapjcckbmaaDoor
open Go.RowKit
attribute [local go_sem] ix0 ix1 ix2 ix3
theorem maskN (a : Nat) (ha : a < 18446744073709551616) : bits .and .u64 (a : Int) 4294967295 = ((a % 4294967296 : Nat) : Int) := by
  have h := bits_and_u64_nat a 4294967295 ha (by omega)
  have e : a &&& 4294967295 = a % 4294967296 := Nat.and_two_pow_sub_one_eq_mod a 32
  rw [e] at h
  exact h
theorem divN (a : Nat) : (a : Int) / 4294967296 = ((a / 4294967296 : Nat) : Int) := by omega
theorem mulN (a b : Nat) : (a : Int) * (b : Int) = ((a * b : Nat) : Int) := (Int.natCast_mul a b).symm
theorem addN (a b : Nat) : (a : Int) + (b : Int) = ((a + b : Nat) : Int) := (Int.natCast_add a b).symm
theorem wrapN (a : Nat) (ha : a < 18446744073709551616) : IntKind.u64.wrap (a : Int) = (a : Int) := by rw [IntKind.wrap_u64]; omega
theorem wrapM (a : Nat) : IntKind.u64.wrap (a : Int) = ((a % 18446744073709551616 : Nat) : Int) := by rw [IntKind.wrap_u64]; omega

set_option maxRecDepth 100000 in
theorem add64_n (s p n : Nat) (hn : n < B64) (w : World) :
    (callFunc 86 #[.int .u64 (lb s p), .int .u64 n, .int .u64 0]).run Tryd.prog w =
      .ok (.value (.tuple #[.int .u64 (lb (s + n * B64 ^ p) p), .int .u64 (cy s (n * B64 ^ p) (p + 1))])) w := by
  have h := add64_i s (n * B64 ^ p) p w
  have e1 : lb (n * B64 ^ p) p = n := by unfold lb; rw [Nat.mul_div_cancel _ (pow_pos' p), Nat.mod_eq_of_lt hn]
  have e2 : cy s (n * B64 ^ p) p = 0 := by unfold cy; rw [Nat.mul_mod_left, Nat.add_zero, Nat.div_eq_of_lt (Nat.mod_lt _ (pow_pos' p))]; rfl
  rwa [e1, e2] at h

set_option maxRecDepth 100000 in
theorem add64_c (s p n k : Nat) (hk : p < k) (hn : n < B64) (w : World) :
    (callFunc 86 #[.int .u64 (lb s k), .int .u64 (cy s (n * B64 ^ p) k), .int .u64 0]).run Tryd.prog w =
      .ok (.value (.tuple #[.int .u64 (lb (s + n * B64 ^ p) k), .int .u64 (cy s (n * B64 ^ p) (k + 1))])) w := by
  have hc : 0 ≤ cy s (n * B64 ^ p) k ∧ cy s (n * B64 ^ p) k ≤ 1 := ⟨Int.natCast_nonneg _, by have := cy_le s (n * B64 ^ p) k; unfold cy; exact Int.ofNat_le.2 this⟩
  have h := add64_i s (n * B64 ^ p) k w
  have e1 : lb (n * B64 ^ p) k = 0 := by
    unfold lb
    have : n * B64 ^ p / B64 ^ k = 0 := by
      apply Nat.div_eq_of_lt
      have h1 : B64 ^ k = B64 * B64 ^ p * B64 ^ (k - p - 1) := by rw [← Nat.pow_succ', ← Nat.pow_add]; congr 1; omega
      rw [h1]
      have h2 : n * B64 ^ p < B64 * B64 ^ p := Nat.mul_lt_mul_of_pos_right hn (pow_pos' p)
      have h3 : 0 < B64 ^ (k - p - 1) := pow_pos' _
      exact Nat.lt_of_lt_of_le h2 (Nat.le_mul_of_pos_right _ h3)
    rw [this]; rfl
  rw [e1] at h
  rw [run_callFunc_extern (fn := Tryd.f86) (by kernel_rfl) (by kernel_rfl) (by kernel_rfl) (by kernel_rfl) (e := add64Entry) (by kernel_rfl), run_add64 _ _ _ (lb_nonneg _ _) (by omega) hc.1 hc.2] at h
  rw [run_callFunc_extern (fn := Tryd.f86) (by kernel_rfl) (by kernel_rfl) (by kernel_rfl) (by kernel_rfl) (e := add64Entry) (by kernel_rfl), run_add64 _ _ _ (lb_nonneg _ _) hc.1 (by omega) (by omega), ← h]
  simp only [Int.add_zero]

/-- The carry that is to be added at k, n having been added at p. -/
def crr (s p n k : Nat) : Int := if k = p then (n : Int) else cy s (n * B64 ^ p) k
theorem crr_self (s p n : Nat) : crr s p n p = n := if_pos rfl
set_option maxRecDepth 100000 in
theorem add64_k (s p n k : Nat) (hk : p ≤ k) (hn : n < B64) (w : World) :
    (callFunc 86 #[.int .u64 (lb s k), .int .u64 (crr s p n k), .int .u64 0]).run Tryd.prog w =
      .ok (.value (.tuple #[.int .u64 (lb (s + n * B64 ^ p) k), .int .u64 (crr s p n (k + 1))])) w := by
  have e1 : crr s p n (k + 1) = cy s (n * B64 ^ p) (k + 1) := if_neg (by omega)
  rw [e1]
  by_cases h : k = p
  · subst h; rw [crr_self]; exact add64_n s k n hn w
  · rw [show crr s p n k = cy s (n * B64 ^ p) k from if_neg h]; exact add64_c s p n k (by omega) hn w

/-- Parts of t below k, of s from k on. -/
def mixP (s t k i : Nat) : Int := if i < k then lb t i else lb s i
theorem mixP_self (s t k : Nat) : mixP s t k k = lb s k := if_neg (by omega)
theorem mixP_next (s t k : Nat) : mixP s t (k + 1) k = lb t k := if_pos (by omega)
theorem mixP_ne (s t k i : Nat) (h : i ≠ k) : mixP s t (k + 1) i = mixP s t k i := by
  unfold mixP; by_cases g : i < k
  · rw [if_pos g, if_pos (by omega)]
  · rw [if_neg g, if_neg (by omega)]
/-- The cells of a word under way: its four numbers, its width. -/
def mixC (s t k : Nat) (wd : Int) : Array Value := #[.int .u64 (mixP s t k 0), .int .u64 (mixP s t k 1), .int .u64 (mixP s t k 2), .int .u64 (mixP s t k 3), .int .i64 wd]
def Dc (s : Nat) (wd : Int) : Array Value := #[.int .u64 (lb s 0), .int .u64 (lb s 1), .int .u64 (lb s 2), .int .u64 (lb s 3), .int .i64 wd]
theorem mixC_start (s p n : Nat) (wd : Int) : mixC s (s + n * B64 ^ p) p wd = Dc s wd := by
  have h : ∀ i, mixP s (s + n * B64 ^ p) p i = lb s i := fun i => by
    unfold mixP; by_cases g : i < p
    · rw [if_pos g]; unfold lb
      have e : n * B64 ^ p = B64 ^ i * (B64 * (n * B64 ^ (p - i - 1))) := by
        have e1 : B64 ^ p = B64 ^ i * (B64 * B64 ^ (p - i - 1)) := by rw [← Nat.pow_succ', ← Nat.pow_add]; congr 1; omega
        rw [e1, Nat.mul_left_comm, Nat.mul_left_comm n B64]
      rw [e, Nat.add_mul_div_left _ _ (pow_pos' i), Nat.add_mul_mod_self_left]
    · rw [if_neg g]
  unfold mixC Dc; rw [h, h, h, h]
theorem mixC_end (s t k : Nat) (wd : Int) (hk : 4 ≤ k) : mixC s t k wd = Dc t wd := by
  have h : ∀ i, i < 4 → mixP s t k i = lb t i := fun i hi => if_pos (by omega)
  unfold mixC Dc; rw [h 0 (by omega), h 1 (by omega), h 2 (by omega), h 3 (by omega)]
theorem lb_add_zero (s t i : Nat) (h : cy s t i = 0) (h2 : lb t i = 0) : lb (s + t) i = lb s i := by
  unfold lb cy at *
  have e := lb_add s t i
  rw [Int.ofNat.inj h, Int.ofNat.inj h2] at e
  simp only [Nat.add_zero, Nat.mod_mod] at e
  rw [← e]
theorem cy_next_zero (s t i : Nat) (h : cy s t i = 0) (h2 : lb t i = 0) : cy s t (i + 1) = 0 := by
  have e := cy_add s t i
  unfold lb cy at *
  rw [Int.ofNat.inj h, Int.ofNat.inj h2, Nat.add_zero, Nat.add_zero, Nat.div_eq_of_lt (Nat.mod_lt _ B64_pos)] at e
  rw [← e]; rfl
/-- Where the carry is nought no further number changes. -/
theorem mixC_stop (s p n k : Nat) (wd : Int) (hpk : p ≤ k) (hn : n < B64) (hc : crr s p n k = 0) : mixC s (s + n * B64 ^ p) k wd = Dc (s + n * B64 ^ p) wd := by
  have hz : ∀ i, k ≤ i → cy s (n * B64 ^ p) i = 0 ∧ lb (n * B64 ^ p) i = 0 := by
    by_cases h : k = p
    · subst h
      rw [crr_self] at hc
      have : n = 0 := by omega
      subst this
      intro i _
      rw [Nat.zero_mul]
      exact ⟨by unfold cy; rw [Nat.zero_mod, Nat.add_zero, Nat.div_eq_of_lt (Nat.mod_lt _ (pow_pos' i))]; rfl, lb_zero i⟩
    · have hl : ∀ i, p < i → lb (n * B64 ^ p) i = 0 := fun i hi => by
        unfold lb
        have h1 : B64 ^ i = B64 * B64 ^ p * B64 ^ (i - p - 1) := by rw [← Nat.pow_succ', ← Nat.pow_add]; congr 1; omega
        have h2 : n * B64 ^ p < B64 * B64 ^ p := Nat.mul_lt_mul_of_pos_right hn (pow_pos' p)
        rw [Nat.div_eq_of_lt (by rw [h1]; exact Nat.lt_of_lt_of_le h2 (Nat.le_mul_of_pos_right _ (pow_pos' _)))]; rfl
      rw [show crr s p n k = cy s (n * B64 ^ p) k from if_neg h] at hc
      intro i hi
      induction i with
      | zero => obtain rfl : k = 0 := by omega
                omega
      | succ i ih =>
        by_cases g : k = i + 1
        · subst g; exact ⟨hc, hl _ (by omega)⟩
        · have := ih (by omega); exact ⟨cy_next_zero _ _ _ this.1 this.2, hl _ (by omega)⟩
  have h : ∀ i, mixP s (s + n * B64 ^ p) k i = lb (s + n * B64 ^ p) i := fun i => by
    unfold mixP; by_cases g : i < k
    · rw [if_pos g]
    · rw [if_neg g, lb_add_zero _ _ _ (hz i (by omega)).1 (hz i (by omega)).2]
  unfold mixC Dc; rw [h, h, h, h]

theorem mixC_set (s t k : Nat) (wd : Int) (hk : k < 4) : (mixC s t k wd).setIfInBounds k (.int .u64 (lb t k)) = mixC s t (k + 1) wd := by
  match k, hk with
  | 0, _ => unfold mixC; rw [mixP_next s t 0, mixP_ne s t 0 1 (by omega), mixP_ne s t 0 2 (by omega), mixP_ne s t 0 3 (by omega)]; rfl
  | 1, _ => unfold mixC; rw [mixP_next s t 1, mixP_ne s t 1 0 (by omega), mixP_ne s t 1 2 (by omega), mixP_ne s t 1 3 (by omega)]; rfl
  | 2, _ => unfold mixC; rw [mixP_next s t 2, mixP_ne s t 2 0 (by omega), mixP_ne s t 2 1 (by omega), mixP_ne s t 2 3 (by omega)]; rfl
  | 3, _ => unfold mixC; rw [mixP_next s t 3, mixP_ne s t 3 0 (by omega), mixP_ne s t 3 1 (by omega), mixP_ne s t 3 2 (by omega)]; rfl

theorem grown_refl (w : World) (g : Nat) : w.grownBy w (some g) := ⟨rfl, rfl, rfl, Nat.le_refl _, fun _ _ _ => rfl⟩
theorem grown_set {w wr : World} {g : Nat} (h : w.grownBy wr (some g)) (k : Nat) (v : Value) : w.grownBy (wr.setCell ⟨g, k, none⟩ v).drew (some g) :=
  ⟨h.os, h.tape, h.output, by have := h.size; simp [World.drew, World.setCell]; exact this, fun i hi hne => (Below.heap_setCell wr ⟨g, k, none⟩ v i (fun e => hne (by rw [e]))).trans (h.block i hi hne)⟩

theorem addAt_any (s p n g : Nat) (wd : Int) (hp : p ≤ 8) (hn : n < B64) (w : World) (hg : w.heap[g]? = some (.cells (Dc s wd) 95 (0, 0))) :
    Calls Tryd.prog 76 #[.pointer (some ⟨g, 0, none⟩), .int .i64 p, .int .u64 n] w fun e w' => e = .returned (.tuple #[]) ∧ w'.heap[g]? = some (.cells (Dc (s + n * B64 ^ p) wd) 95 (0, 0)) ∧ w.grownBy w' (some g) := by
  obtain ⟨t, ht⟩ : ∃ t, t = s + n * B64 ^ p := ⟨_, rfl⟩
  have Ht := Lib.hid ht
  have hg' : Hid (w.heap[g]? = some (.cells (mixC s t p wd) 95 (0, 0))) := by rw [ht, mixC_start]; exact hg
  have HP : Hid ((n : Int) = crr s p n p) := (crr_self s p n).symm
  rw [← ht]
  have HN := Lib.hid hn
  clear hg ht hn
  go_enter Tryd.func76, Tryd.ntmps76
  go_wp2
  go_loopw [1, 6] (fun i c wr => ∃ k : Nat, p ≤ k ∧ k ≤ 8 ∧ i = .int .i64 k ∧ c = .int .u64 (crr s p n k) ∧ wr.heap[g]? = some (.cells (mixC s t k wd) 95 (0, 0)) ∧ w.grownBy wr (some g)) (fun i _ _ => 8 - (intOf i).toNat)
  case atStart => exact ⟨p, Nat.le_refl _, hp, rfl, by rw [HP.out], hg'.out, grown_refl _ _⟩
  case round =>
    obtain ⟨k, hpk, hk8, rfl, rfl, hm, hB⟩ := hrel
    by_cases hc : crr s p n k = 0
    · have hc' : (crr s p n k != 0) = false := by rw [hc]; rfl
      have Hc := Lib.hid hc
      have Hm := Lib.hid hm
      clear hc hm
      go_wp2
      go_end0
      exact ⟨rfl, by rw [Hm.out, Ht.out, mixC_stop s p n k wd hpk HN.out Hc.out], hB⟩
    · have hc' : (crr s p n k != 0) = true := by simpa using hc
      clear hc
      by_cases h4 : 4 ≤ k
      · have Hm := Lib.hid hm
        clear hm
        go_wp2
        go_end0
        exact ⟨rfl, by rw [Hm.out, mixC_end s t k wd h4], hB⟩
      · have hadd : Hid (∀ w, (callFunc 86 #[.int .u64 (lb s k), .int .u64 (crr s p n k), .int .u64 0]).run Tryd.prog w = .ok (.value (.tuple #[.int .u64 (lb t k), .int .u64 (crr s p n (k + 1))])) w) := fun w => by rw [Ht.out]; exact add64_k s p n k hpk HN.out w
        have hf := fun j => frozen_of_row wr g j _ _ hm
        have h : k = 0 ∨ k = 1 ∨ k = 2 ∨ k = 3 := by omega
        rcases h with rfl | rfl | rfl | rfl
        · have c := (cell_of_row wr g 0 _ _ _ hm).trans (show (mixC s t 0 wd)[0]? = some (.int .u64 (lb s 0)) by unfold mixC; rw [mixP_self]; rfl)
          have f := hf 0
          have Hm := Lib.hid hm
          have ha := hadd.out
          clear hm hf hadd
          go_wp2
          go_region
          go_wp2
          exact ⟨⟨1, by omega, by omega, rfl, rfl, by rw [heap_drew, heap_setCell_same _ g 0 _ _ _ Hm.out, mixC_set s t 0 wd (by omega)], grown_set hB 0 _⟩, by simp [intOf]⟩
        · have c := (cell_of_row wr g 1 _ _ _ hm).trans (show (mixC s t 1 wd)[1]? = some (.int .u64 (lb s 1)) by unfold mixC; rw [mixP_self]; rfl)
          have f := hf 1
          have Hm := Lib.hid hm
          have ha := hadd.out
          clear hm hf hadd
          go_wp2
          go_region
          go_wp2
          exact ⟨⟨2, by omega, by omega, rfl, rfl, by rw [heap_drew, heap_setCell_same _ g 1 _ _ _ Hm.out, mixC_set s t 1 wd (by omega)], grown_set hB 1 _⟩, by simp [intOf]⟩
        · have c := (cell_of_row wr g 2 _ _ _ hm).trans (show (mixC s t 2 wd)[2]? = some (.int .u64 (lb s 2)) by unfold mixC; rw [mixP_self]; rfl)
          have f := hf 2
          have Hm := Lib.hid hm
          have ha := hadd.out
          clear hm hf hadd
          go_wp2
          go_region
          go_wp2
          exact ⟨⟨3, by omega, by omega, rfl, rfl, by rw [heap_drew, heap_setCell_same _ g 2 _ _ _ Hm.out, mixC_set s t 2 wd (by omega)], grown_set hB 2 _⟩, by simp [intOf]⟩
        · have c := (cell_of_row wr g 3 _ _ _ hm).trans (show (mixC s t 3 wd)[3]? = some (.int .u64 (lb s 3)) by unfold mixC; rw [mixP_self]; rfl)
          have f := hf 3
          have Hm := Lib.hid hm
          have ha := hadd.out
          clear hm hf hadd
          go_wp2
          go_region
          go_wp2
          exact ⟨⟨4, by omega, by omega, rfl, rfl, by rw [heap_drew, heap_setCell_same _ g 3 _ _ _ Hm.out, mixC_set s t 3 wd (by omega)], grown_set hB 3 _⟩, by simp [intOf]⟩

/-- The place given as a sum of two. -/
theorem addAt_ij (s i j n g : Nat) (wd : Int) (hp : i + j ≤ 7) (hn : n < B64) (w : World) (hg : w.heap[g]? = some (.cells (Dc s wd) 95 (0, 0))) :
    Calls Tryd.prog 76 #[.pointer (some ⟨g, 0, none⟩), .int .i64 ((i : Int) + (j : Int)), .int .u64 n] w fun e w' => e = .returned (.tuple #[]) ∧ w'.heap[g]? = some (.cells (Dc (s + n * B64 ^ (i + j)) wd) 95 (0, 0)) ∧ w.grownBy w' (some g) := by
  rw [← Int.natCast_add]; exact addAt_any s (i + j) n g wd (by omega) hn w hg
theorem addAt_ij1 (s i j n g : Nat) (wd : Int) (hp : i + j ≤ 7) (hn : n < B64) (w : World) (hg : w.heap[g]? = some (.cells (Dc s wd) 95 (0, 0))) :
    Calls Tryd.prog 76 #[.pointer (some ⟨g, 0, none⟩), .int .i64 ((i : Int) + (j : Int) + 1), .int .u64 n] w fun e w' => e = .returned (.tuple #[]) ∧ w'.heap[g]? = some (.cells (Dc (s + n * B64 ^ (i + j + 1)) wd) 95 (0, 0)) ∧ w.grownBy w' (some g) := by
  have e : (i : Int) + (j : Int) + 1 = ((i + j + 1 : Nat) : Int) := by omega
  rw [e]; exact addAt_any s (i + j + 1) n g wd (by omega) hn w hg

end Go.Proofs.YtcdmaapjcckbmaaDoor
