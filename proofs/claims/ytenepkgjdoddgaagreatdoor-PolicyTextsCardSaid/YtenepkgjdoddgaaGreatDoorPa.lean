/- Texts laid into one: Pa. -/
import Derived.WalkKit
import Derived.ChangeKeysEq
import Derived.Laws.StructEq
import Derived.Test.YtenepkgjdoddgaaGreatDoorRows
import Derived.WalkSpells
import Derived.WalkLawsBesides
import Derived.Lib.Hide
import Derived.Deep.QuietTactic
import Derived.BigQuiet
import Derived.Laws.Rows
import Derived.Deep.LoopGhost
import Derived.Lib.Mul64
import Derived.Laws.Bits64b
import Derived.RegionTactic
import Derived.ChangeAlike
import Derived.Deep.RegionWith
import Derived.RangeFuncNested
import Derived.RangeFuncBound
import Derived.RangeFuncCalls
import Derived.RangeFuncLeaves
import Derived.Shelf.Abstract
import Derived.Shelf.RegionOpen
import Derived.OwnWalkIn
import Derived.TacticsInMore
import Derived.LoopNIn
import Derived.LoopIn
/- Plain numbers for the layer word: the four numbers of 64 bits of a number, what becomes of them in sums and differences. No program. -/
namespace Go.Proofs.YtenepkgjdoddgaaGreatDoor

/-- 2^64. -/
def B64 : Nat := 18446744073709551616
/-- 2^256. -/
def MM : Nat := B64 ^ 4
theorem B64_pos : 0 < B64 := by unfold B64; omega
theorem MM_pos : 0 < MM := Nat.pow_pos B64_pos
theorem MM_eq : MM = 115792089237316195423570985008687907853269984665640564039457584007913129639936 := by unfold MM B64; decide +kernel

/-- The i-th number of 64 bits of n, the lowest first. -/
def lb (n i : Nat) : Int := ((n / B64 ^ i % B64 : Nat) : Int)
theorem lb_nonneg (n i : Nat) : 0 ≤ lb n i := Int.natCast_nonneg _
theorem lb_le (n i : Nat) : lb n i ≤ 18446744073709551615 := by
  unfold lb; have := Nat.mod_lt (n / B64 ^ i) B64_pos; unfold B64 at *; omega

theorem lb_zero (i : Nat) : lb 0 i = 0 := by unfold lb; rw [Nat.zero_div, Nat.zero_mod]; rfl

/-- The carry into the i-th number of a sum. -/
def cy (a b i : Nat) : Int := (((a % B64 ^ i + b % B64 ^ i) / B64 ^ i : Nat) : Int)
/-- The borrow into the i-th number of a difference. -/
def bw (a b i : Nat) : Int := ((if a % B64 ^ i < b % B64 ^ i then 1 else 0 : Nat) : Int)
theorem cy_zero (a b : Nat) : cy a b 0 = 0 := by simp [cy, Nat.mod_one]
theorem bw_zero (a b : Nat) : bw a b 0 = 0 := by simp [bw, Nat.mod_one]

theorem pow_pos' (i : Nat) : 0 < B64 ^ i := Nat.pow_pos B64_pos

/-- a % B^(i+1) in its two parts. -/
theorem mod_succ' (a i : Nat) : a % B64 ^ (i + 1) = a % B64 ^ i + B64 ^ i * (a / B64 ^ i % B64) := by
  rw [Nat.pow_succ, Nat.mod_mul]

theorem cy_le (a b i : Nat) : (a % B64 ^ i + b % B64 ^ i) / B64 ^ i ≤ 1 := by
  have ha := Nat.mod_lt a (pow_pos' i)
  have hb := Nat.mod_lt b (pow_pos' i)
  have : (a % B64 ^ i + b % B64 ^ i) / B64 ^ i < 2 := Nat.div_lt_of_lt_mul (by omega)
  omega

theorem add_div_split (a b p : Nat) (hp : 0 < p) : (a + b) / p = a / p + b / p + (a % p + b % p) / p := by
  have ha := Nat.div_add_mod a p
  have hb := Nat.div_add_mod b p
  have e : a + b = (a % p + b % p) + p * (a / p + b / p) := by rw [Nat.mul_add]; omega
  rw [e, Nat.add_mul_div_left _ _ hp]; omega

theorem lb_add (a b i : Nat) : (a / B64 ^ i % B64 + b / B64 ^ i % B64 + (a % B64 ^ i + b % B64 ^ i) / B64 ^ i) % B64 = (a + b) / B64 ^ i % B64 := by
  rw [add_div_split a b _ (pow_pos' i)]
  simp only [Nat.add_mod, Nat.mod_mod]

theorem cy_add (a b i : Nat) : (a / B64 ^ i % B64 + b / B64 ^ i % B64 + (a % B64 ^ i + b % B64 ^ i) / B64 ^ i) / B64 = (a % B64 ^ (i + 1) + b % B64 ^ (i + 1)) / B64 ^ (i + 1) := by
  rw [mod_succ', mod_succ', Nat.pow_succ, ← Nat.div_div_eq_div_mul]
  have e : a % B64 ^ i + B64 ^ i * (a / B64 ^ i % B64) + (b % B64 ^ i + B64 ^ i * (b / B64 ^ i % B64)) = (a % B64 ^ i + b % B64 ^ i) + B64 ^ i * (a / B64 ^ i % B64 + b / B64 ^ i % B64) := by rw [Nat.mul_add]; omega
  rw [e, Nat.add_mul_div_left _ _ (pow_pos' i)]
  congr 1; omega

/-- What is left of a difference, modulo 2^256. -/
def sb (a b : Nat) : Nat := a + (MM - b % MM)

theorem lb_mod (n i : Nat) (hi : i < 4) : lb (n % MM) i = lb n i := by
  unfold lb MM
  have e : B64 ^ 4 = B64 ^ i * B64 ^ (4 - i) := by rw [← Nat.pow_add]; congr 1; omega
  rw [e, Nat.mod_mul_right_div_self]
  have e2 : B64 ^ (4 - i) = B64 * B64 ^ (4 - i - 1) := by rw [← Nat.pow_succ']; congr 1; omega
  rw [e2, Nat.mod_mul_right_mod]

theorem lb_congr {m n : Nat} (h : m % MM = n % MM) (i : Nat) (hi : i < 4) : lb m i = lb n i := by
  rw [← lb_mod m i hi, h, lb_mod n i hi]

/-- A number from its four parts. -/
def vl (a0 a1 a2 a3 : Nat) : Nat := a0 + B64 * (a1 + B64 * (a2 + B64 * a3))

theorem vl_lt {a0 a1 a2 a3 : Nat} (h0 : a0 < B64) (h1 : a1 < B64) (h2 : a2 < B64) (h3 : a3 < B64) : vl a0 a1 a2 a3 < MM := by
  unfold vl; rw [MM_eq]; unfold B64 at *; omega
theorem vl_0 {a0 : Nat} (a1 a2 a3 : Nat) (h0 : a0 < B64) : lb (vl a0 a1 a2 a3) 0 = a0 := by
  unfold lb vl; rw [Nat.pow_zero, Nat.div_one, Nat.add_mul_mod_self_left, Nat.mod_eq_of_lt h0]
theorem vl_1 {a0 a1 : Nat} (a2 a3 : Nat) (h0 : a0 < B64) (h1 : a1 < B64) : lb (vl a0 a1 a2 a3) 1 = a1 := by
  unfold lb vl; rw [Nat.pow_one, Nat.add_mul_div_left _ _ B64_pos, Nat.div_eq_of_lt h0, Nat.zero_add, Nat.add_mul_mod_self_left, Nat.mod_eq_of_lt h1]
theorem vl_2 {a0 a1 a2 : Nat} (a3 : Nat) (h0 : a0 < B64) (h1 : a1 < B64) (h2 : a2 < B64) : lb (vl a0 a1 a2 a3) 2 = a2 := by
  unfold lb vl; rw [show B64 ^ 2 = B64 * B64 from by rw [Nat.pow_two], ← Nat.div_div_eq_div_mul, Nat.add_mul_div_left _ _ B64_pos, Nat.div_eq_of_lt h0, Nat.zero_add, Nat.add_mul_div_left _ _ B64_pos, Nat.div_eq_of_lt h1, Nat.zero_add, Nat.add_mul_mod_self_left, Nat.mod_eq_of_lt h2]
theorem vl_3 {a0 a1 a2 a3 : Nat} (h0 : a0 < B64) (h1 : a1 < B64) (h2 : a2 < B64) (h3 : a3 < B64) : lb (vl a0 a1 a2 a3) 3 = a3 := by
  unfold lb vl; rw [show B64 ^ 3 = B64 * B64 * B64 from by rw [Nat.pow_succ, Nat.pow_two], ← Nat.div_div_eq_div_mul, ← Nat.div_div_eq_div_mul, Nat.add_mul_div_left _ _ B64_pos, Nat.div_eq_of_lt h0, Nat.zero_add, Nat.add_mul_div_left _ _ B64_pos, Nat.div_eq_of_lt h1, Nat.zero_add, Nat.add_mul_div_left _ _ B64_pos, Nat.div_eq_of_lt h2, Nat.zero_add, Nat.mod_eq_of_lt h3]

/-- Four numbers of 64 bits are those of one number below 2^256. -/
theorem word_of {a0 a1 a2 a3 : Int} (h0 : 0 ≤ a0 ∧ a0 ≤ 18446744073709551615) (h1 : 0 ≤ a1 ∧ a1 ≤ 18446744073709551615) (h2 : 0 ≤ a2 ∧ a2 ≤ 18446744073709551615) (h3 : 0 ≤ a3 ∧ a3 ≤ 18446744073709551615) :
    ∃ n, n < MM ∧ a0 = lb n 0 ∧ a1 = lb n 1 ∧ a2 = lb n 2 ∧ a3 = lb n 3 := by
  obtain ⟨n0, rfl⟩ := Int.eq_ofNat_of_zero_le h0.1
  obtain ⟨n1, rfl⟩ := Int.eq_ofNat_of_zero_le h1.1
  obtain ⟨n2, rfl⟩ := Int.eq_ofNat_of_zero_le h2.1
  obtain ⟨n3, rfl⟩ := Int.eq_ofNat_of_zero_le h3.1
  have g0 : n0 < B64 := by unfold B64; omega
  have g1 : n1 < B64 := by unfold B64; omega
  have g2 : n2 < B64 := by unfold B64; omega
  have g3 : n3 < B64 := by unfold B64; omega
  exact ⟨vl n0 n1 n2 n3, vl_lt g0 g1 g2 g3, (vl_0 _ _ _ g0).symm, (vl_1 _ _ g0 g1).symm, (vl_2 _ g0 g1 g2).symm, (vl_3 g0 g1 g2 g3).symm⟩

/-- A number below 2^256 out of its parts. -/
theorem vl_lb (n : Nat) (h : n < MM) : vl (n / B64 ^ 0 % B64) (n / B64 ^ 1 % B64) (n / B64 ^ 2 % B64) (n / B64 ^ 3 % B64) = n := by
  rw [Nat.pow_zero, Nat.div_one, Nat.pow_one, show B64 ^ 2 = B64 * B64 from by rw [Nat.pow_two], show B64 ^ 3 = B64 * B64 * B64 from by rw [Nat.pow_succ, Nat.pow_two], ← Nat.div_div_eq_div_mul, ← Nat.div_div_eq_div_mul, ← Nat.div_div_eq_div_mul]
  unfold vl; rw [MM_eq] at h; unfold B64; omega

/-- Numbers below 2^256 with like parts are one. -/
theorem lb_inj {m n : Nat} (hm : m < MM) (hn : n < MM) (h0 : lb m 0 = lb n 0) (h1 : lb m 1 = lb n 1) (h2 : lb m 2 = lb n 2) (h3 : lb m 3 = lb n 3) : m = n := by
  unfold lb at h0 h1 h2 h3
  rw [← vl_lb m hm, ← vl_lb n hn, Int.ofNat.inj h0, Int.ofNat.inj h1, Int.ofNat.inj h2, Int.ofNat.inj h3]

/-- Are all parts alike? -/
theorem lb_eq_iff (m n : Nat) : (lb m 0 = lb n 0 ∧ lb m 1 = lb n 1 ∧ lb m 2 = lb n 2 ∧ lb m 3 = lb n 3) ↔ m % MM = n % MM := by
  constructor
  · rintro ⟨h0, h1, h2, h3⟩
    refine lb_inj (Nat.mod_lt _ MM_pos) (Nat.mod_lt _ MM_pos) ?_ ?_ ?_ ?_ <;> rw [lb_mod _ _ (by omega), lb_mod _ _ (by omega)] <;> assumption
  · intro h
    exact ⟨lb_congr h 0 (by omega), lb_congr h 1 (by omega), lb_congr h 2 (by omega), lb_congr h 3 (by omega)⟩

/-- The difference's part, with the borrow that comes in. -/
theorem lb_sub (a b i : Nat) (hi : i < 4) : (a / B64 ^ i % B64 + B64 - b / B64 ^ i % B64 - (if a % B64 ^ i < b % B64 ^ i then 1 else 0)) % B64 = sb a b / B64 ^ i % B64 := by
  have hb := Nat.mod_lt (b / B64 ^ i) B64_pos
  have hMp : MM = B64 ^ i * B64 ^ (4 - i) := by unfold MM; rw [← Nat.pow_add]; congr 1; omega
  have hq : B64 ^ (4 - i) = B64 * B64 ^ (4 - i - 1) := by rw [← Nat.pow_succ']; congr 1; omega
  have hbM := Nat.mod_lt b MM_pos
  have hbp : b % MM % B64 ^ i = b % B64 ^ i := by rw [hMp, Nat.mod_mul_right_mod]
  have hbq : b % MM / B64 ^ i % B64 = b / B64 ^ i % B64 := by rw [hMp, Nat.mod_mul_right_div_self, hq, Nat.mod_mul_right_mod]
  have hlt : b % MM / B64 ^ i < B64 ^ (4 - i) := by rw [hMp, Nat.mod_mul_right_div_self]; exact Nat.mod_lt _ (Nat.pow_pos B64_pos)
  unfold sb
  rw [← hbp, ← hbq] at *
  generalize b % MM = c at *
  have hc := Nat.div_add_mod c (B64 ^ i)
  have ha := Nat.div_add_mod a (B64 ^ i)
  have hcm := Nat.mod_lt c (pow_pos' i)
  have ham := Nat.mod_lt a (pow_pos' i)
  generalize hQ : B64 ^ (4 - i - 1) = Q at *
  have hpp := pow_pos' i
  have hQp : 0 < Q := by rw [← hQ]; exact Nat.pow_pos B64_pos
  generalize B64 ^ i = p at *
  generalize hcd : c / p = cd at *
  generalize hcr : c % p = cr at *
  generalize had : a / p = ad at *
  generalize har : a % p = ar at *
  have hMM : MM = p * (B64 * Q) := by rw [hMp, hq]
  have hBp := B64_pos
  generalize B64 = B at *
  have hcdm := Nat.div_add_mod cd B
  by_cases hlt2 : ar < cr
  · rw [if_pos hlt2]
    have e : a + (MM - c) = (p + ar - cr) + p * (ad + (B * Q - cd - 1)) := by
      rw [hMM, Nat.mul_add, Nat.mul_sub, Nat.mul_sub, ← hc, ← ha]
      have : p * cd + p ≤ p * (B * Q) := by rw [← Nat.mul_succ]; exact Nat.mul_le_mul_left _ (by omega)
      omega
    rw [e, Nat.add_mul_div_left _ _ hpp, Nat.div_eq_of_lt (by omega), Nat.zero_add]
    have hcb : cd % B < B := Nat.mod_lt _ hBp
    have hcq : cd / B < Q := Nat.div_lt_of_lt_mul (by omega)
    have e2 : ad + (B * Q - cd - 1) = (ad % B + B - cd % B - 1) + B * (ad / B + (Q - 1 - cd / B)) := by
      have had2 := Nat.div_add_mod ad B
      rw [Nat.mul_add, Nat.mul_sub, Nat.mul_sub]
      have : B * (cd / B) + B ≤ B * Q := by rw [← Nat.mul_succ]; exact Nat.mul_le_mul_left _ (by omega)
      omega
    rw [e2, Nat.add_mul_mod_self_left]
  · rw [if_neg hlt2]
    have e : a + (MM - c) = (ar - cr) + p * (ad + (B * Q - cd)) := by
      rw [hMM, Nat.mul_add, Nat.mul_sub, ← hc, ← ha]
      have : p * cd + p ≤ p * (B * Q) := by rw [← Nat.mul_succ]; exact Nat.mul_le_mul_left _ (by omega)
      omega
    rw [e, Nat.add_mul_div_left _ _ hpp, Nat.div_eq_of_lt (by omega), Nat.zero_add]
    have hcb : cd % B < B := Nat.mod_lt _ hBp
    have hcq : cd / B < Q := Nat.div_lt_of_lt_mul (by omega)
    have e2 : ad + (B * Q - cd) = (ad % B + B - cd % B - 0) + B * (ad / B + (Q - 1 - cd / B)) := by
      have had2 := Nat.div_add_mod ad B
      rw [Nat.mul_add, Nat.mul_sub, Nat.mul_sub]
      have : B * (cd / B) + B ≤ B * Q := by rw [← Nat.mul_succ]; exact Nat.mul_le_mul_left _ (by omega)
      omega
    rw [e2, Nat.add_mul_mod_self_left]

/-- The borrow that goes out. -/
theorem bw_sub (a b i : Nat) : (if a / B64 ^ i % B64 < b / B64 ^ i % B64 + (if a % B64 ^ i < b % B64 ^ i then 1 else 0) then 1 else 0 : Nat) = (if a % B64 ^ (i + 1) < b % B64 ^ (i + 1) then 1 else 0) := by
  rw [mod_succ', mod_succ']
  have ha := Nat.mod_lt a (pow_pos' i)
  have hb := Nat.mod_lt b (pow_pos' i)
  generalize B64 ^ i = p at *
  generalize a / p % B64 = x
  generalize b / p % B64 = y
  generalize a % p = r at *
  generalize b % p = s at *
  have key : (x < y + (if r < s then 1 else 0)) ↔ (r + p * x < s + p * y) := by
    by_cases h : r < s
    · rw [if_pos h]
      constructor
      · intro h2
        have := Nat.mul_le_mul_left p (show x ≤ y by omega); omega
      · intro h2
        by_cases h3 : x ≤ y
        · omega
        · have := Nat.mul_le_mul_left p (show y + 1 ≤ x by omega); rw [Nat.mul_add] at this; omega
    · rw [if_neg h]
      constructor
      · intro h2
        have := Nat.mul_le_mul_left p (show x + 1 ≤ y by omega); rw [Nat.mul_add] at this; omega
      · intro h2
        by_cases h3 : x < y
        · omega
        · have := Nat.mul_le_mul_left p (show y ≤ x by omega); omega
  simp only [key]

/-- The order of numbers: -1, 0, 1. -/
def cmpN (a b : Nat) : Int := if a < b then -1 else if b < a then 1 else 0
/-- The first number from the highest on that is unlike the other one's; of like ones nought. -/
def fuN (a b : Nat) : Int := if lb a 3 = lb b 3 then (if lb a 2 = lb b 2 then (if lb a 1 = lb b 1 then (if lb a 0 = lb b 0 then 0 else lb a 0) else lb a 1) else lb a 2) else lb a 3
theorem fuN_3 {a b : Nat} (h : lb a 3 ≠ lb b 3) : fuN a b = lb a 3 := by unfold fuN; rw [if_neg h]
theorem fuN_2 {a b : Nat} (h3 : lb a 3 = lb b 3) (h : lb a 2 ≠ lb b 2) : fuN a b = lb a 2 := by unfold fuN; rw [if_pos h3, if_neg h]
theorem fuN_1 {a b : Nat} (h3 : lb a 3 = lb b 3) (h2 : lb a 2 = lb b 2) (h : lb a 1 ≠ lb b 1) : fuN a b = lb a 1 := by unfold fuN; rw [if_pos h3, if_pos h2, if_neg h]
theorem fuN_0 {a b : Nat} (h3 : lb a 3 = lb b 3) (h2 : lb a 2 = lb b 2) (h1 : lb a 1 = lb b 1) (h : lb a 0 ≠ lb b 0) : fuN a b = lb a 0 := by unfold fuN; rw [if_pos h3, if_pos h2, if_pos h1, if_neg h]
theorem fuN_n {a b : Nat} (h3 : lb a 3 = lb b 3) (h2 : lb a 2 = lb b 2) (h1 : lb a 1 = lb b 1) (h : lb a 0 = lb b 0) : fuN a b = 0 := by unfold fuN; rw [if_pos h3, if_pos h2, if_pos h1, if_pos h]

theorem cmpN_lt {a b : Nat} (h : a < b) : cmpN a b = -1 := by unfold cmpN; rw [if_pos h]
theorem cmpN_gt {a b : Nat} (h : b < a) : cmpN a b = 1 := by unfold cmpN; rw [if_neg (by omega), if_pos h]
theorem cmpN_eq (a : Nat) : cmpN a a = 0 := by unfold cmpN; rw [if_neg (by omega), if_neg (by omega)]
theorem cmpN_anti (a b : Nat) : cmpN a b = - cmpN b a := by
  rcases Nat.lt_trichotomy a b with h | h | h
  · rw [cmpN_lt h, cmpN_gt h]
  · subst h; rw [cmpN_eq]; rfl
  · rw [cmpN_lt h, cmpN_gt h]; rfl

/-- The order of two numbers as cmp.Compare tells it. -/
def cmpI (x y : Int) : Int := if x < y then -1 else if y < x then 1 else 0
theorem cmp_fu {a b : Nat} (ha : a < MM) (hb : b < MM) : cmpI (fuN a b) (fuN b a) = cmpN a b := by
  unfold cmpI
  have ea := vl_lb a ha
  have eb := vl_lb b hb
  have na : ∀ i, ((a / B64 ^ i % B64 : Nat) : Int) = lb a i := fun _ => rfl
  have nb : ∀ i, ((b / B64 ^ i % B64 : Nat) : Int) = lb b i := fun _ => rfl
  have ba : ∀ i, a / B64 ^ i % B64 < B64 := fun i => Nat.mod_lt _ B64_pos
  have bb : ∀ i, b / B64 ^ i % B64 < B64 := fun i => Nat.mod_lt _ B64_pos
  have a0 := na 0; have a1 := na 1; have a2 := na 2; have a3 := na 3
  have b0 := nb 0; have b1 := nb 1; have b2 := nb 2; have b3 := nb 3
  have p0 := ba 0; have p1 := ba 1; have p2 := ba 2; have p3 := ba 3
  have q0 := bb 0; have q1 := bb 1; have q2 := bb 2; have q3 := bb 3
  clear na nb ba bb
  generalize a / B64 ^ 0 % B64 = x0 at *
  generalize a / B64 ^ 1 % B64 = x1 at *
  generalize a / B64 ^ 2 % B64 = x2 at *
  generalize a / B64 ^ 3 % B64 = x3 at *
  generalize b / B64 ^ 0 % B64 = y0 at *
  generalize b / B64 ^ 1 % B64 = y1 at *
  generalize b / B64 ^ 2 % B64 = y2 at *
  generalize b / B64 ^ 3 % B64 = y3 at *
  unfold vl B64 at *
  by_cases h3 : lb a 3 = lb b 3
  · by_cases h2 : lb a 2 = lb b 2
    · by_cases h1 : lb a 1 = lb b 1
      · by_cases h0 : lb a 0 = lb b 0
        · have : a = b := by omega
          subst this; rw [cmpN_eq, if_neg (by omega), if_neg (by omega)]
        · rw [fuN_0 h3 h2 h1 h0, fuN_0 h3.symm h2.symm h1.symm (Ne.symm h0)]
          by_cases g : lb a 0 < lb b 0
          · rw [if_pos g, cmpN_lt (by omega)]
          · rw [if_neg g, if_pos (by omega), cmpN_gt (by omega)]
      · rw [fuN_1 h3 h2 h1, fuN_1 h3.symm h2.symm (Ne.symm h1)]
        by_cases g : lb a 1 < lb b 1
        · rw [if_pos g, cmpN_lt (by omega)]
        · rw [if_neg g, if_pos (by omega), cmpN_gt (by omega)]
    · rw [fuN_2 h3 h2, fuN_2 h3.symm (Ne.symm h2)]
      by_cases g : lb a 2 < lb b 2
      · rw [if_pos g, cmpN_lt (by omega)]
      · rw [if_neg g, if_pos (by omega), cmpN_gt (by omega)]
  · rw [fuN_3 h3, fuN_3 (Ne.symm h3)]
    by_cases g : lb a 3 < lb b 3
    · rw [if_pos g, cmpN_lt (by omega)]
    · rw [if_neg g, if_pos (by omega), cmpN_gt (by omega)]

/-! Products, number by number. -/
/-- A sum over a list. -/
def sumL {α : Type} (f : α → Nat) : List α → Nat
  | [] => 0
  | x :: l => f x + sumL f l
theorem sumL_snoc {α : Type} (f : α → Nat) (l : List α) (x : α) : sumL f (l ++ [x]) = sumL f l + f x := by
  induction l with
  | nil => simp [sumL]
  | cons y l ih => simp only [List.cons_append, sumL, ih]; omega
/-- The halves of the product of two words' numbers. -/
def hiN (a i b j : Nat) : Nat := (a / B64 ^ i % B64) * (b / B64 ^ j % B64) / B64
def loN (a i b j : Nat) : Nat := (a / B64 ^ i % B64) * (b / B64 ^ j % B64) % B64
theorem loN_lt (a i b j : Nat) : loN a i b j < B64 := Nat.mod_lt _ B64_pos
theorem hiN_lt (a i b j : Nat) : hiN a i b j < B64 := by
  unfold hiN
  refine Nat.div_lt_of_lt_mul ?_
  have h1 := Nat.mod_lt (a / B64 ^ i) B64_pos
  have h2 := Nat.mod_lt (b / B64 ^ j) B64_pos
  exact Nat.mul_lt_mul'' h1 h2
/-- What two numbers give to the product. -/
def cI (a b i j : Nat) : Nat := (a / B64 ^ i % B64) * (b / B64 ^ j % B64) * B64 ^ (i + j)
theorem cI_halves (a b i j : Nat) : loN a i b j * B64 ^ (i + j) + hiN a i b j * B64 ^ (i + j + 1) = cI a b i j := by
  unfold loN hiN cI
  generalize a / B64 ^ i % B64 * (b / B64 ^ j % B64) = x
  rw [Nat.pow_succ, Nat.mul_comm (B64 ^ (i + j)) B64, ← Nat.mul_assoc, ← Nat.add_mul]
  congr 1
  have := Nat.mod_add_div x B64
  rw [Nat.mul_comm B64] at this; exact this
/-- What one number gives with all of the other word's. -/
def rowF (a b i : Nat) : Nat := cI a b i 0 + cI a b i 1 + cI a b i 2 + cI a b i 3
theorem cI_far (a b i j : Nat) (h : 4 ≤ i + j) : cI a b i j % MM = 0 := by
  unfold cI MM
  have e : B64 ^ (i + j) = B64 ^ 4 * B64 ^ (i + j - 4) := by rw [← Nat.pow_add]; congr 1; omega
  rw [e, Nat.mul_left_comm, Nat.mul_mod_right]
/-- A number's i-th part at its place. -/
def atP (n i : Nat) : Nat := n / B64 ^ i % B64 * B64 ^ i
theorem cI_eq (a b i j : Nat) : cI a b i j = atP a i * atP b j := by
  unfold cI atP; rw [Nat.pow_add, Nat.mul_mul_mul_comm]
theorem rowF_eq (a b i : Nat) : rowF a b i = atP a i * (atP b 0 + atP b 1 + atP b 2 + atP b 3) := by
  unfold rowF; simp only [cI_eq, Nat.mul_add]
theorem atP_sum (n : Nat) : (atP n 0 + atP n 1 + atP n 2 + atP n 3) % MM = n % MM := by
  have h := vl_lb (n % MM) (Nat.mod_lt _ MM_pos)
  have g : ∀ i, i < 4 → n % MM / B64 ^ i % B64 = n / B64 ^ i % B64 := fun i hi => Int.ofNat.inj (lb_mod n i hi)
  rw [g 0 (by omega), g 1 (by omega), g 2 (by omega), g 3 (by omega)] at h
  have e : atP n 0 + atP n 1 + atP n 2 + atP n 3 = n % MM := by
    rw [← h]
    unfold atP vl
    generalize n / B64 ^ 0 % B64 = x0
    generalize n / B64 ^ 1 % B64 = x1
    generalize n / B64 ^ 2 % B64 = x2
    generalize n / B64 ^ 3 % B64 = x3
    simp only [Nat.mul_add, Nat.pow_zero, Nat.mul_one, Nat.pow_one, show B64 ^ 2 = B64 * B64 from Nat.pow_two _, show B64 ^ 3 = B64 * B64 * B64 from by rw [Nat.pow_succ, Nat.pow_two], Nat.mul_comm x1, Nat.mul_comm x2, Nat.mul_comm x3, Nat.mul_assoc, Nat.add_assoc]
  rw [e, Nat.mod_mod]
theorem rows_mul (a b : Nat) : (rowF a b 0 + rowF a b 1 + rowF a b 2 + rowF a b 3) % MM = (a * b) % MM := by
  simp only [rowF_eq, ← Nat.add_mul]
  rw [Nat.mul_mod, atP_sum, atP_sum, ← Nat.mul_mod]

/-- The places of a word's four numbers. -/
def xs4 : List (Fin 4) := [⟨0, by omega⟩, ⟨1, by omega⟩, ⟨2, by omega⟩, ⟨3, by omega⟩]
theorem xs4_take (k : Nat) (hk : k < 4) : xs4.take (k + 1) = xs4.take k ++ [⟨k, hk⟩] := by
  match k, hk with
  | 0, _ | 1, _ | 2, _ | 3, _ => rfl
theorem sum_row (a b : Nat) (x : Fin 4) : sumL (fun y : Fin 4 => cI a b x.val y.val) xs4 = rowF a b x.val := by
  show cI a b x.val 0 + (cI a b x.val 1 + (cI a b x.val 2 + (cI a b x.val 3 + 0))) = rowF a b x.val
  unfold rowF; omega
theorem sum_rows (a b : Nat) : sumL (fun x : Fin 4 => rowF a b x.val) xs4 % MM = (a * b) % MM := by
  rw [← rows_mul]
  show (rowF a b 0 + (rowF a b 1 + (rowF a b 2 + (rowF a b 3 + 0)))) % MM = _
  rw [Nat.add_zero, ← Nat.add_assoc, ← Nat.add_assoc]
/-- What stands behind the first number that lies too far counts for nothing. -/
theorem far_row (a b : Nat) (x : Fin 4) (m : Nat) (q : List (Fin 4)) (y : Fin 4) (h : xs4.take m = q ++ [y]) (h4 : 4 ≤ x.val + y.val) : sumL (fun y : Fin 4 => cI a b x.val y.val) q % MM = rowF a b x.val % MM := by
  have hq : q = (xs4.take m).dropLast := by rw [h]; simp
  have hy : (xs4.take m).getLast? = some y := by rw [h]; simp
  have hx := x.isLt
  have d : ∀ j, 4 ≤ x.val + j → ∃ k, cI a b x.val j = MM * k := fun j hj => Nat.dvd_of_mod_eq_zero (cI_far a b x.val j hj)
  have s1 : ∀ c k : Nat, (c + MM * k) % MM = c % MM := fun c k => Nat.add_mul_mod_self_left c MM k
  subst hq
  unfold rowF
  match m with
  | 0 => exact absurd hy (by simp)
  | 1 =>
    have e : y.val = 0 := by have := congrArg (Option.map Fin.val) hy; exact (Option.some.inj this).symm
    omega
  | 2 =>
    have e : y.val = 1 := by have := congrArg (Option.map Fin.val) hy; exact (Option.some.inj this).symm
    obtain ⟨k1, g1⟩ := d 1 (by omega)
    obtain ⟨k2, g2⟩ := d 2 (by omega)
    obtain ⟨k3, g3⟩ := d 3 (by omega)
    show (cI a b x.val 0 + 0) % MM = _
    rw [g1, g2, g3, s1, s1, s1, Nat.add_zero]
  | 3 =>
    have e : y.val = 2 := by have := congrArg (Option.map Fin.val) hy; exact (Option.some.inj this).symm
    obtain ⟨k2, g2⟩ := d 2 (by omega)
    obtain ⟨k3, g3⟩ := d 3 (by omega)
    show (cI a b x.val 0 + (cI a b x.val 1 + 0)) % MM = _
    rw [g2, g3, s1, s1, Nat.add_zero]
  | m + 4 =>
    have e0 : xs4.take (m + 4) = xs4 := by rw [List.take_of_length_le]; show 4 ≤ m + 4; omega
    rw [e0] at hy ⊢
    have e : y.val = 3 := by have := congrArg (Option.map Fin.val) hy; exact (Option.some.inj this).symm
    obtain ⟨k3, g3⟩ := d 3 (by omega)
    show (cI a b x.val 0 + (cI a b x.val 1 + (cI a b x.val 2 + 0))) % MM = _
    rw [g3, s1, Nat.add_zero, ← Nat.add_assoc]

/-! A word under way is moved up. -/
theorem limb_mul0 (s c : Nat) : s * c / B64 ^ 0 % B64 = (s / B64 ^ 0 % B64) * c % B64 := by
  rw [Nat.pow_zero, Nat.div_one, Nat.div_one, Nat.mod_mul_mod]
theorem limb_mul (s c D i : Nat) (hB : B64 = c * D) (hc : 0 < c) : s * c / B64 ^ (i + 1) % B64 = (s / B64 ^ (i + 1) % B64) * c % B64 + (s / B64 ^ i % B64) / D := by
  have hp := pow_pos' i
  have hD : 0 < D := by rcases Nat.eq_zero_or_pos D with h | h; · rw [h, Nat.mul_zero] at hB; have := B64_pos; omega
                        · exact h
  have hBp := B64_pos
  rw [Nat.pow_succ]
  generalize hP : B64 ^ i = p at *
  have e1 : s * c / (p * B64) = s / (p * B64) * c + (s / p % B64) / D := by
    rw [← Nat.div_div_eq_div_mul, ← Nat.div_div_eq_div_mul]
    have hs := Nat.div_add_mod s p
    have hr := Nat.mod_lt s hp
    generalize s / p = t at *
    generalize s % p = r at *
    have e2 : s * c / p = t * c + r * c / p := by
      rw [← hs, Nat.add_mul, Nat.mul_assoc, Nat.mul_add_div hp]
    have hrho : r * c / p < c := Nat.div_lt_of_lt_mul (by exact Nat.mul_lt_mul_of_pos_right hr hc)
    rw [e2]
    generalize r * c / p = rho at *
    have ht := Nat.div_add_mod t B64
    have e3 : t * c + rho = B64 * (t / B64 * c) + (t % B64 * c + rho) := by
      conv => lhs; rw [← ht]
      rw [Nat.add_mul, Nat.mul_assoc, Nat.add_assoc]
    rw [e3, Nat.mul_add_div hBp]
    congr 1
    rw [hB, ← Nat.div_div_eq_div_mul, Nat.mul_comm _ c, Nat.mul_add_div hc, Nat.div_eq_of_lt hrho, Nat.add_zero]
  rw [e1]
  have hy : (s / p % B64) / D < c := by
    refine Nat.div_lt_of_lt_mul ?_
    rw [Nat.mul_comm, ← hB]; exact Nat.mod_lt _ hBp
  generalize (s / p % B64) / D = y at *
  generalize s / (p * B64) = u
  have e4 : u * c % B64 = c * (u % D) := by rw [hB, Nat.mul_comm u c, Nat.mul_mod_mul_left]
  have e5 : (u % B64) * c % B64 = c * (u % D) := by rw [Nat.mod_mul_mod, e4]
  rw [Nat.add_mod, e4, e5]
  have hu : u % D < D := Nat.mod_lt _ hD
  have : c * (u % D) + c ≤ B64 := by rw [hB, ← Nat.mul_succ]; exact Nat.mul_le_mul_left _ hu
  rw [Nat.mod_eq_of_lt (show y < B64 by omega), Nat.mod_eq_of_lt (by omega)]

/-! Bytes. -/
/-- The j-th byte of a number, the lowest first. -/
def byA (a j : Nat) : Nat := a / 256 ^ j % 256
theorem byA_lt (a j : Nat) : byA a j < 256 := Nat.mod_lt _ (by omega)
theorem B64_256 : B64 = 256 ^ 8 := by unfold B64; rfl
/-- A byte out of the part that holds it. -/
theorem by_part (a q r : Nat) (hr : r < 8) : a / B64 ^ q % B64 / 256 ^ r % 256 = byA a (q * 8 + r) := by
  unfold byA
  rw [B64_256, ← Nat.pow_mul]
  have e : (256 : Nat) ^ 8 = 256 ^ r * 256 ^ (8 - r) := by rw [← Nat.pow_add]; congr 1; omega
  have e2 : (256 : Nat) ^ (8 - r) = 256 * 256 ^ (8 - r - 1) := by rw [← Nat.pow_succ']; congr 1; omega
  rw [show a / 256 ^ (8 * q) % 256 ^ 8 = a / 256 ^ (8 * q) % (256 ^ r * 256 ^ (8 - r)) from by rw [← e], Nat.mod_mul_right_div_self, e2, Nat.mod_mul_right_mod, Nat.div_div_eq_div_mul, ← Nat.pow_add, Nat.mul_comm 8 q]
theorem by_lb (a k : Nat) : lb a (k / 8) / 2 ^ (k % 8 * 8) % 256 = ((byA a k : Nat) : Int) := by
  have h := by_part a (k / 8) (k % 8) (Nat.mod_lt _ (by omega))
  rw [show k / 8 * 8 + k % 8 = k from by omega] at h
  rw [← h]
  unfold lb
  rw [show (256 : Nat) ^ (k % 8) = 2 ^ (k % 8 * 8) from by rw [show (256 : Nat) = 2 ^ 8 from rfl, ← Nat.pow_mul, Nat.mul_comm]]
  simp only [Int.natCast_emod, Int.natCast_ediv, Int.natCast_pow]
  rfl

end Go.Proofs.YtenepkgjdoddgaaGreatDoor

/- Two arrays of integers are compared: are all their numbers alike? Over any program. -/
namespace Go.Proofs.YtenepkgjdoddgaaGreatDoor
section
variable {P : Program}

theorem run_eqItems_ints (d : Nat) {e : TypeId} {k : IntKind} (he : P.underlying e = some (.int k)) (hc : P.cellsOf e = 1) (xs ys : Array Value) (f g : Nat → Int) (w : World) :
    ∀ (is : List Nat), (∀ i, i ∈ is → xs[i]? = some (.int k (f i)) ∧ ys[i]? = some (.int k (g i))) → (Op.eqItems (d + 1) e (P.cellsOf e) xs ys is).run P w = .ok (is.all fun i => f i == g i) w
  | [], _ => by simp [Op.eqItems]
  | i :: is, h => by
    have hp : P.plainKey e = true := by unfold Program.plainKey; rw [he]
    obtain ⟨h1, h2⟩ := h i (by simp)
    have ih := run_eqItems_ints d he hc xs ys f g w is (fun j hj => h j (by simp [hj]))
    rw [hc] at ih ⊢
    simp only [Op.eqItems, Sem.run_bind, Nat.mul_one, run_part_plain w hp h1, run_part_plain w hp h2, Result.andThen_ok, run_equalIn_int w d e k k (f i) (g i) he]
    cases hb : f i == g i
    · simp [hb]
    · simp [hb, ih]

/-- '==' on two arrays of n integers. -/
theorem run_eql_ints {t e : TypeId} {n : Nat} {k : IntKind} {i : TypeInfo} (ht : P.underlying t = some (.array n e)) (he : P.underlying e = some (.int k)) (hi : P.info? e = some i) (hc : P.cellsOf e = 1)
    (xs ys : Array Value) (f g : Nat → Int) (h : ∀ j, j < n → xs[j]? = some (.int k (f j)) ∧ ys[j]? = some (.int k (g j))) (w : World) :
    (binOp .eql t (.agg xs) (.agg ys)).run P w = .ok (.bool ((List.range n).all fun j => f j == g j)) w := by
  rw [run_eql_struct, show (10000 : Nat) = 9998 + 1 + 1 from rfl, run_equalIn_array w (9998 + 1) xs ys ht hi, run_eqItems_ints 9998 he hc xs ys f g w (List.range n) (fun j hj => h j (by simpa using hj))]
  simp

/-- '!=' on two arrays of n integers. -/
theorem run_neq_ints {t e : TypeId} {n : Nat} {k : IntKind} {i : TypeInfo} (ht : P.underlying t = some (.array n e)) (he : P.underlying e = some (.int k)) (hi : P.info? e = some i) (hc : P.cellsOf e = 1)
    (xs ys : Array Value) (f g : Nat → Int) (h : ∀ j, j < n → xs[j]? = some (.int k (f j)) ∧ ys[j]? = some (.int k (g j))) (w : World) :
    (binOp .neq t (.agg xs) (.agg ys)).run P w = .ok (.bool (!((List.range n).all fun j => f j == g j))) w := by
  rw [run_neq_struct, show (10000 : Nat) = 9998 + 1 + 1 from rfl, run_equalIn_array w (9998 + 1) xs ys ht hi, run_eqItems_ints 9998 he hc xs ys f g w (List.range n) (fun j hj => h j (by simpa using hj))]
  simp
end
end Go.Proofs.YtenepkgjdoddgaaGreatDoor

/- Layer word: what the carrying sum and difference of the library come to, likeness of words, and the small functions. -/
namespace Go.Proofs.YtenepkgjdoddgaaGreatDoor
open Go.RowKit

/-- The word of a number, as a value. -/
abbrev W (n : Nat) : Value := .agg #[.int .u64 (lb n 0), .int .u64 (lb n 1), .int .u64 (lb n 2), .int .u64 (lb n 3)]
/-- Its cells. -/
abbrev Wc (n : Nat) : Array Value := #[.int .u64 (lb n 0), .int .u64 (lb n 1), .int .u64 (lb n 2), .int .u64 (lb n 3)]

theorem natLb (n i : Nat) : ((n / B64 ^ i % B64 : Nat) : Int) = lb n i := rfl

theorem add64_i (a b i : Nat) (w : World) :
    (callFunc 148 #[.int .u64 (lb a i), .int .u64 (lb b i), .int .u64 (cy a b i)]).run Tryz.prog w =
      .ok (.value (.tuple #[.int .u64 (lb (a + b) i), .int .u64 (cy a b (i + 1))])) w := by
  have hc : 0 ≤ cy a b i ∧ cy a b i ≤ 1 := ⟨Int.natCast_nonneg _, by have := cy_le a b i; unfold cy; exact Int.ofNat_le.2 this⟩
  rw [run_callFunc_extern (fn := Tryz.f148) (by kernel_rfl) (by kernel_rfl) (by kernel_rfl) (by kernel_rfl) (e := add64Entry) (by kernel_rfl), run_add64 _ _ _ (lb_nonneg _ _) (lb_nonneg _ _) hc.1 hc.2]
  simp only [Result.andThen]
  have h1 : (lb a i + lb b i + cy a b i) % 18446744073709551616 = lb (a + b) i := by
    unfold lb cy; rw [← lb_add a b i]; simp only [Int.natCast_emod, Int.natCast_add]; rfl
  have h2 : (lb a i + lb b i + cy a b i) / 18446744073709551616 = cy a b (i + 1) := by
    unfold lb cy; rw [← cy_add a b i]; simp only [Int.natCast_ediv, Int.natCast_add]; rfl
  rw [h1, h2]

theorem add64_0 (a b : Nat) (w : World) :
    (callFunc 148 #[.int .u64 (lb a 0), .int .u64 (lb b 0), .int .u64 0]).run Tryz.prog w =
      .ok (.value (.tuple #[.int .u64 (lb (a + b) 0), .int .u64 (cy a b 1)])) w := by
  have h := add64_i a b 0 w
  rwa [cy_zero] at h

theorem ix0 (x0 x1 x2 x3 : Value) (w : World) : (Instr.index 58 (.agg #[x0, x1, x2, x3]) (.int .i64 0)).run Tryz.prog w = .ok x0 w := by kernel_rfl
theorem ix1 (x0 x1 x2 x3 : Value) (w : World) : (Instr.index 58 (.agg #[x0, x1, x2, x3]) (.int .i64 1)).run Tryz.prog w = .ok x1 w := by kernel_rfl
theorem ix2 (x0 x1 x2 x3 : Value) (w : World) : (Instr.index 58 (.agg #[x0, x1, x2, x3]) (.int .i64 2)).run Tryz.prog w = .ok x2 w := by kernel_rfl
theorem ix3 (x0 x1 x2 x3 : Value) (w : World) : (Instr.index 58 (.agg #[x0, x1, x2, x3]) (.int .i64 3)).run Tryz.prog w = .ok x3 w := by kernel_rfl
attribute [local go_sem] ix0 ix1 ix2 ix3
theorem info_u64 : (Tryz.prog.info? 22).isSome = true := by kernel_rfl
theorem eqW_raw (t : TypeId) (ht : Tryz.prog.underlying t = some (.array 4 22)) (x y : Nat) (w : World) :
    (binOp .eql t (W x) (W y)).run Tryz.prog w = .ok (.bool (x % MM == y % MM)) w := by
  obtain ⟨i, hi⟩ := Option.isSome_iff_exists.1 info_u64
  have h := run_eql_ints ht (k := .u64) (by kernel_rfl) hi (by kernel_rfl) (Wc x) (Wc y) (lb x) (lb y)
    (fun j hj => by match j, hj with | 0, _ | 1, _ | 2, _ | 3, _ => exact ⟨rfl, rfl⟩) w
  rw [h]
  refine congrArg (fun b => Result.ok (Value.bool b) w) ?_
  rw [Bool.eq_iff_iff]
  simp only [List.all_eq_true, List.mem_range, beq_iff_eq]
  rw [← lb_eq_iff]
  exact ⟨fun h => ⟨h 0 (by omega), h 1 (by omega), h 2 (by omega), h 3 (by omega)⟩, fun h j hj => by match j, hj with | 0, _ => exact h.1 | 1, _ => exact h.2.1 | 2, _ => exact h.2.2.1 | 3, _ => exact h.2.2.2⟩
theorem eqW (x y : Nat) (w : World) : (binOp .eql 58 (W x) (W y)).run Tryz.prog w = .ok (.bool (x % MM == y % MM)) w := eqW_raw _ (by kernel_rfl) x y w

theorem bstep {w W w1 : World} (h : Below w.heap.size w W) (k : Below W.heap.size W w1) : Below w.heap.size w w1 := h.trans (k.mono h.size)
theorem balloc {w W : World} (h : Below w.heap.size w W) (o : Obj) : Below w.heap.size w (W.alloc o) := h.alloc h.size o

end Go.Proofs.YtenepkgjdoddgaaGreatDoor

/- Layer word: the sum of many (word.Add and its closure). -/
namespace Go.Proofs.YtenepkgjdoddgaaGreatDoor
open Go.RowKit
attribute [local go_sem] ix0 ix1 ix2 ix3
/-- The sum of the first k. -/
def sumN (f : Nat → Nat) : Nat → Nat
  | 0 => 0
  | k + 1 => sumN f k + f k

/-- The words lie in a row, each in four cells. -/
def WordsAt (w : World) (b o n : Nat) (f : Nat → Nat) : Prop := ∀ k, k < n → w.cell? ⟨b, o + k * 4, none⟩ = some (.int .u64 (lb (f k) 0)) ∧ w.cell? ⟨b, o + k * 4 + 1, none⟩ = some (.int .u64 (lb (f k) 1)) ∧ w.cell? ⟨b, o + k * 4 + 2, none⟩ = some (.int .u64 (lb (f k) 2)) ∧ w.cell? ⟨b, o + k * 4 + 3, none⟩ = some (.int .u64 (lb (f k) 3))

end Go.Proofs.YtenepkgjdoddgaaGreatDoor

/- Layer word: the product of two numbers of 64 bits; a number added at a place of a word under way. -/
namespace Go.Proofs.YtenepkgjdoddgaaGreatDoor
open Go.RowKit
attribute [local go_sem] ix0 ix1 ix2 ix3
theorem maskN (a : Nat) (ha : a < 18446744073709551616) : bits .and .u64 (a : Int) 4294967295 = ((a % 4294967296 : Nat) : Int) := by
  have h := bits_and_u64_nat a 4294967295 ha (by omega)
  have e : a &&& 4294967295 = a % 4294967296 := Nat.and_two_pow_sub_one_eq_mod a 32
  rw [e] at h
  exact h
theorem divN (a : Nat) : (a : Int) / 4294967296 = ((a / 4294967296 : Nat) : Int) := by omega
theorem mulN (a b : Nat) : (a : Int) * (b : Int) = ((a * b : Nat) : Int) := (Int.natCast_mul a b).symm
theorem addN (a b : Nat) : (a : Int) + (b : Int) = ((a + b : Nat) : Int) := (Int.natCast_add a b).symm
theorem wrapN (a : Nat) (ha : a < 18446744073709551616) : IntKind.u64.wrap (a : Int) = (a : Int) := by rw [IntKind.wrap_u64]; omega
theorem wrapM (a : Nat) : IntKind.u64.wrap (a : Int) = ((a % 18446744073709551616 : Nat) : Int) := by rw [IntKind.wrap_u64]; omega

set_option maxHeartbeats 1000000 in
theorem mul64_raw (x y : Nat) (hx : x < 18446744073709551616) (hy : y < 18446744073709551616) (w : World) :
    Calls Tryz.prog 132 #[.int .u64 x, .int .u64 y] w fun e w' => e = .returned (.tuple #[.int .u64 ((x * y / 18446744073709551616 : Nat) : Int), .int .u64 ((x * y % 18446744073709551616 : Nat) : Int)]) ∧ w = w' := by
  obtain ⟨bd, bt, bw, hhi⟩ := Lib.mul64_hi x y hx hy
  have ba := Lib.half_mul_le (a := x / 4294967296) (b := y / 4294967296) (by omega) (by omega)
  have bb := Lib.half_mul_le (a := x / 4294967296) (b := y % 4294967296) (by omega) (by omega)
  have bc := Lib.half_mul_le (a := x % 4294967296) (b := y / 4294967296) (by omega) (by omega)
  have ba' : x / 4294967296 * (y / 4294967296) < 18446744073709551616 := by omega
  have bb' : x / 4294967296 * (y % 4294967296) < 18446744073709551616 := by omega
  have bc' : x % 4294967296 * (y / 4294967296) < 18446744073709551616 := by omega
  have bh1 : x / 4294967296 * (y / 4294967296) + (x / 4294967296 * (y % 4294967296) + x % 4294967296 * (y % 4294967296) / 4294967296) / 4294967296 < 18446744073709551616 := by omega
  have bh : x / 4294967296 * (y / 4294967296) + (x / 4294967296 * (y % 4294967296) + x % 4294967296 * (y % 4294967296) / 4294967296) / 4294967296 + ((x / 4294967296 * (y % 4294967296) + x % 4294967296 * (y % 4294967296) / 4294967296) % 4294967296 + x % 4294967296 * (y / 4294967296)) / 4294967296 < 18446744073709551616 := by omega
  go_enter Tryz.func132, Tryz.ntmps132
  go_wp2
  simp only [maskN x hx, maskN y hy, divN, mulN, addN, wrapN _ bd, wrapN _ bb', wrapN _ bt, maskN _ bt, wrapN _ bc', wrapN _ bw, wrapN _ ba', wrapN _ bh1, wrapN _ bh, wrapM (x * y)]
  rw [hhi]
  go_ret2
  exact ⟨rfl, rfl⟩

theorem mul64_any (a i b j : Nat) (w : World) :
    Calls Tryz.prog 132 #[.int .u64 (lb a i), .int .u64 (lb b j)] w fun e w' => e = .returned (.tuple #[.int .u64 (hiN a i b j : Nat), .int .u64 (loN a i b j : Nat)]) ∧ w = w' :=
  mul64_raw (a / B64 ^ i % B64) (b / B64 ^ j % B64) (Nat.mod_lt _ B64_pos) (Nat.mod_lt _ B64_pos) w

set_option maxRecDepth 100000 in
theorem add64_n (s p n : Nat) (hn : n < B64) (w : World) :
    (callFunc 148 #[.int .u64 (lb s p), .int .u64 n, .int .u64 0]).run Tryz.prog w =
      .ok (.value (.tuple #[.int .u64 (lb (s + n * B64 ^ p) p), .int .u64 (cy s (n * B64 ^ p) (p + 1))])) w := by
  have h := add64_i s (n * B64 ^ p) p w
  have e1 : lb (n * B64 ^ p) p = n := by unfold lb; rw [Nat.mul_div_cancel _ (pow_pos' p), Nat.mod_eq_of_lt hn]
  have e2 : cy s (n * B64 ^ p) p = 0 := by unfold cy; rw [Nat.mul_mod_left, Nat.add_zero, Nat.div_eq_of_lt (Nat.mod_lt _ (pow_pos' p))]; rfl
  rwa [e1, e2] at h

set_option maxRecDepth 100000 in
theorem add64_c (s p n k : Nat) (hk : p < k) (hn : n < B64) (w : World) :
    (callFunc 148 #[.int .u64 (lb s k), .int .u64 (cy s (n * B64 ^ p) k), .int .u64 0]).run Tryz.prog w =
      .ok (.value (.tuple #[.int .u64 (lb (s + n * B64 ^ p) k), .int .u64 (cy s (n * B64 ^ p) (k + 1))])) w := by
  have hc : 0 ≤ cy s (n * B64 ^ p) k ∧ cy s (n * B64 ^ p) k ≤ 1 := ⟨Int.natCast_nonneg _, by have := cy_le s (n * B64 ^ p) k; unfold cy; exact Int.ofNat_le.2 this⟩
  have h := add64_i s (n * B64 ^ p) k w
  have e1 : lb (n * B64 ^ p) k = 0 := by
    unfold lb
    have : n * B64 ^ p / B64 ^ k = 0 := by
      apply Nat.div_eq_of_lt
      have h1 : B64 ^ k = B64 * B64 ^ p * B64 ^ (k - p - 1) := by rw [← Nat.pow_succ', ← Nat.pow_add]; congr 1; omega
      rw [h1]
      have h2 : n * B64 ^ p < B64 * B64 ^ p := Nat.mul_lt_mul_of_pos_right hn (pow_pos' p)
      have h3 : 0 < B64 ^ (k - p - 1) := pow_pos' _
      exact Nat.lt_of_lt_of_le h2 (Nat.le_mul_of_pos_right _ h3)
    rw [this]; rfl
  rw [e1] at h
  rw [run_callFunc_extern (fn := Tryz.f148) (by kernel_rfl) (by kernel_rfl) (by kernel_rfl) (by kernel_rfl) (e := add64Entry) (by kernel_rfl), run_add64 _ _ _ (lb_nonneg _ _) (by omega) hc.1 hc.2] at h
  rw [run_callFunc_extern (fn := Tryz.f148) (by kernel_rfl) (by kernel_rfl) (by kernel_rfl) (by kernel_rfl) (e := add64Entry) (by kernel_rfl), run_add64 _ _ _ (lb_nonneg _ _) hc.1 (by omega) (by omega), ← h]
  simp only [Int.add_zero]

/-- The carry that is to be added at k, n having been added at p. -/
def crr (s p n k : Nat) : Int := if k = p then (n : Int) else cy s (n * B64 ^ p) k
theorem crr_self (s p n : Nat) : crr s p n p = n := if_pos rfl
set_option maxRecDepth 100000 in
theorem add64_k (s p n k : Nat) (hk : p ≤ k) (hn : n < B64) (w : World) :
    (callFunc 148 #[.int .u64 (lb s k), .int .u64 (crr s p n k), .int .u64 0]).run Tryz.prog w =
      .ok (.value (.tuple #[.int .u64 (lb (s + n * B64 ^ p) k), .int .u64 (crr s p n (k + 1))])) w := by
  have e1 : crr s p n (k + 1) = cy s (n * B64 ^ p) (k + 1) := if_neg (by omega)
  rw [e1]
  by_cases h : k = p
  · subst h; rw [crr_self]; exact add64_n s k n hn w
  · rw [show crr s p n k = cy s (n * B64 ^ p) k from if_neg h]; exact add64_c s p n k (by omega) hn w

/-- Parts of t below k, of s from k on. -/
def mixP (s t k i : Nat) : Int := if i < k then lb t i else lb s i
theorem mixP_self (s t k : Nat) : mixP s t k k = lb s k := if_neg (by omega)
theorem mixP_next (s t k : Nat) : mixP s t (k + 1) k = lb t k := if_pos (by omega)
theorem mixP_ne (s t k i : Nat) (h : i ≠ k) : mixP s t (k + 1) i = mixP s t k i := by
  unfold mixP; by_cases g : i < k
  · rw [if_pos g, if_pos (by omega)]
  · rw [if_neg g, if_neg (by omega)]
/-- The cells of a word under way: its four numbers, its width. -/
def mixC (s t k : Nat) (wd : Int) : Array Value := #[.int .u64 (mixP s t k 0), .int .u64 (mixP s t k 1), .int .u64 (mixP s t k 2), .int .u64 (mixP s t k 3), .int .i64 wd]
def Dc (s : Nat) (wd : Int) : Array Value := #[.int .u64 (lb s 0), .int .u64 (lb s 1), .int .u64 (lb s 2), .int .u64 (lb s 3), .int .i64 wd]
theorem mixC_start (s p n : Nat) (wd : Int) : mixC s (s + n * B64 ^ p) p wd = Dc s wd := by
  have h : ∀ i, mixP s (s + n * B64 ^ p) p i = lb s i := fun i => by
    unfold mixP; by_cases g : i < p
    · rw [if_pos g]; unfold lb
      have e : n * B64 ^ p = B64 ^ i * (B64 * (n * B64 ^ (p - i - 1))) := by
        have e1 : B64 ^ p = B64 ^ i * (B64 * B64 ^ (p - i - 1)) := by rw [← Nat.pow_succ', ← Nat.pow_add]; congr 1; omega
        rw [e1, Nat.mul_left_comm, Nat.mul_left_comm n B64]
      rw [e, Nat.add_mul_div_left _ _ (pow_pos' i), Nat.add_mul_mod_self_left]
    · rw [if_neg g]
  unfold mixC Dc; rw [h, h, h, h]
theorem mixC_end (s t k : Nat) (wd : Int) (hk : 4 ≤ k) : mixC s t k wd = Dc t wd := by
  have h : ∀ i, i < 4 → mixP s t k i = lb t i := fun i hi => if_pos (by omega)
  unfold mixC Dc; rw [h 0 (by omega), h 1 (by omega), h 2 (by omega), h 3 (by omega)]
theorem lb_add_zero (s t i : Nat) (h : cy s t i = 0) (h2 : lb t i = 0) : lb (s + t) i = lb s i := by
  unfold lb cy at *
  have e := lb_add s t i
  rw [Int.ofNat.inj h, Int.ofNat.inj h2] at e
  simp only [Nat.add_zero, Nat.mod_mod] at e
  rw [← e]
theorem cy_next_zero (s t i : Nat) (h : cy s t i = 0) (h2 : lb t i = 0) : cy s t (i + 1) = 0 := by
  have e := cy_add s t i
  unfold lb cy at *
  rw [Int.ofNat.inj h, Int.ofNat.inj h2, Nat.add_zero, Nat.add_zero, Nat.div_eq_of_lt (Nat.mod_lt _ B64_pos)] at e
  rw [← e]; rfl
/-- Where the carry is nought no further number changes. -/
theorem mixC_stop (s p n k : Nat) (wd : Int) (hpk : p ≤ k) (hn : n < B64) (hc : crr s p n k = 0) : mixC s (s + n * B64 ^ p) k wd = Dc (s + n * B64 ^ p) wd := by
  have hz : ∀ i, k ≤ i → cy s (n * B64 ^ p) i = 0 ∧ lb (n * B64 ^ p) i = 0 := by
    by_cases h : k = p
    · subst h
      rw [crr_self] at hc
      have : n = 0 := by omega
      subst this
      intro i _
      rw [Nat.zero_mul]
      exact ⟨by unfold cy; rw [Nat.zero_mod, Nat.add_zero, Nat.div_eq_of_lt (Nat.mod_lt _ (pow_pos' i))]; rfl, lb_zero i⟩
    · have hl : ∀ i, p < i → lb (n * B64 ^ p) i = 0 := fun i hi => by
        unfold lb
        have h1 : B64 ^ i = B64 * B64 ^ p * B64 ^ (i - p - 1) := by rw [← Nat.pow_succ', ← Nat.pow_add]; congr 1; omega
        have h2 : n * B64 ^ p < B64 * B64 ^ p := Nat.mul_lt_mul_of_pos_right hn (pow_pos' p)
        rw [Nat.div_eq_of_lt (by rw [h1]; exact Nat.lt_of_lt_of_le h2 (Nat.le_mul_of_pos_right _ (pow_pos' _)))]; rfl
      rw [show crr s p n k = cy s (n * B64 ^ p) k from if_neg h] at hc
      intro i hi
      induction i with
      | zero => obtain rfl : k = 0 := by omega
                omega
      | succ i ih =>
        by_cases g : k = i + 1
        · subst g; exact ⟨hc, hl _ (by omega)⟩
        · have := ih (by omega); exact ⟨cy_next_zero _ _ _ this.1 this.2, hl _ (by omega)⟩
  have h : ∀ i, mixP s (s + n * B64 ^ p) k i = lb (s + n * B64 ^ p) i := fun i => by
    unfold mixP; by_cases g : i < k
    · rw [if_pos g]
    · rw [if_neg g, lb_add_zero _ _ _ (hz i (by omega)).1 (hz i (by omega)).2]
  unfold mixC Dc; rw [h, h, h, h]

theorem mixC_set (s t k : Nat) (wd : Int) (hk : k < 4) : (mixC s t k wd).setIfInBounds k (.int .u64 (lb t k)) = mixC s t (k + 1) wd := by
  match k, hk with
  | 0, _ => unfold mixC; rw [mixP_next s t 0, mixP_ne s t 0 1 (by omega), mixP_ne s t 0 2 (by omega), mixP_ne s t 0 3 (by omega)]; rfl
  | 1, _ => unfold mixC; rw [mixP_next s t 1, mixP_ne s t 1 0 (by omega), mixP_ne s t 1 2 (by omega), mixP_ne s t 1 3 (by omega)]; rfl
  | 2, _ => unfold mixC; rw [mixP_next s t 2, mixP_ne s t 2 0 (by omega), mixP_ne s t 2 1 (by omega), mixP_ne s t 2 3 (by omega)]; rfl
  | 3, _ => unfold mixC; rw [mixP_next s t 3, mixP_ne s t 3 0 (by omega), mixP_ne s t 3 1 (by omega), mixP_ne s t 3 2 (by omega)]; rfl

theorem grown_refl (w : World) (g : Nat) : w.grownBy w (some g) := ⟨rfl, rfl, rfl, Nat.le_refl _, fun _ _ _ => rfl⟩
theorem grown_set {w wr : World} {g : Nat} (h : w.grownBy wr (some g)) (k : Nat) (v : Value) : w.grownBy (wr.setCell ⟨g, k, none⟩ v).drew (some g) :=
  ⟨h.os, h.tape, h.output, by have := h.size; simp [World.drew, World.setCell]; exact this, fun i hi hne => (Below.heap_setCell wr ⟨g, k, none⟩ v i (fun e => hne (by rw [e]))).trans (h.block i hi hne)⟩

theorem addAt_any (s p n g : Nat) (wd : Int) (hp : p ≤ 8) (hn : n < B64) (w : World) (hg : w.heap[g]? = some (.cells (Dc s wd) 153 (0, 0))) :
    Calls Tryz.prog 127 #[.pointer (some ⟨g, 0, none⟩), .int .i64 p, .int .u64 n] w fun e w' => e = .returned (.tuple #[]) ∧ w'.heap[g]? = some (.cells (Dc (s + n * B64 ^ p) wd) 153 (0, 0)) ∧ w.grownBy w' (some g) := by
  obtain ⟨t, ht⟩ : ∃ t, t = s + n * B64 ^ p := ⟨_, rfl⟩
  have Ht := Lib.hid ht
  have hg' : Hid (w.heap[g]? = some (.cells (mixC s t p wd) 153 (0, 0))) := by rw [ht, mixC_start]; exact hg
  have HP : Hid ((n : Int) = crr s p n p) := (crr_self s p n).symm
  rw [← ht]
  have HN := Lib.hid hn
  clear hg ht hn
  go_enter Tryz.func127, Tryz.ntmps127
  go_wp2
  go_loopw [1, 6] (fun i c wr => ∃ k : Nat, p ≤ k ∧ k ≤ 8 ∧ i = .int .i64 k ∧ c = .int .u64 (crr s p n k) ∧ wr.heap[g]? = some (.cells (mixC s t k wd) 153 (0, 0)) ∧ w.grownBy wr (some g)) (fun i _ _ => 8 - (intOf i).toNat)
  case atStart => exact ⟨p, Nat.le_refl _, hp, rfl, by rw [HP.out], hg'.out, grown_refl _ _⟩
  case round =>
    obtain ⟨k, hpk, hk8, rfl, rfl, hm, hB⟩ := hrel
    by_cases hc : crr s p n k = 0
    · have hc' : (crr s p n k != 0) = false := by rw [hc]; rfl
      have Hc := Lib.hid hc
      have Hm := Lib.hid hm
      clear hc hm
      go_wp2
      go_end0
      exact ⟨rfl, by rw [Hm.out, Ht.out, mixC_stop s p n k wd hpk HN.out Hc.out], hB⟩
    · have hc' : (crr s p n k != 0) = true := by simpa using hc
      clear hc
      by_cases h4 : 4 ≤ k
      · have Hm := Lib.hid hm
        clear hm
        go_wp2
        go_end0
        exact ⟨rfl, by rw [Hm.out, mixC_end s t k wd h4], hB⟩
      · have hadd : Hid (∀ w, (callFunc 148 #[.int .u64 (lb s k), .int .u64 (crr s p n k), .int .u64 0]).run Tryz.prog w = .ok (.value (.tuple #[.int .u64 (lb t k), .int .u64 (crr s p n (k + 1))])) w) := fun w => by rw [Ht.out]; exact add64_k s p n k hpk HN.out w
        have hf := fun j => frozen_of_row wr g j _ _ hm
        have h : k = 0 ∨ k = 1 ∨ k = 2 ∨ k = 3 := by omega
        rcases h with rfl | rfl | rfl | rfl
        · have c := (cell_of_row wr g 0 _ _ _ hm).trans (show (mixC s t 0 wd)[0]? = some (.int .u64 (lb s 0)) by unfold mixC; rw [mixP_self]; rfl)
          have f := hf 0
          have Hm := Lib.hid hm
          have ha := hadd.out
          clear hm hf hadd
          go_wp2
          go_region
          go_wp2
          exact ⟨⟨1, by omega, by omega, rfl, rfl, by rw [heap_drew, heap_setCell_same _ g 0 _ _ _ Hm.out, mixC_set s t 0 wd (by omega)], grown_set hB 0 _⟩, by simp [intOf]⟩
        · have c := (cell_of_row wr g 1 _ _ _ hm).trans (show (mixC s t 1 wd)[1]? = some (.int .u64 (lb s 1)) by unfold mixC; rw [mixP_self]; rfl)
          have f := hf 1
          have Hm := Lib.hid hm
          have ha := hadd.out
          clear hm hf hadd
          go_wp2
          go_region
          go_wp2
          exact ⟨⟨2, by omega, by omega, rfl, rfl, by rw [heap_drew, heap_setCell_same _ g 1 _ _ _ Hm.out, mixC_set s t 1 wd (by omega)], grown_set hB 1 _⟩, by simp [intOf]⟩
        · have c := (cell_of_row wr g 2 _ _ _ hm).trans (show (mixC s t 2 wd)[2]? = some (.int .u64 (lb s 2)) by unfold mixC; rw [mixP_self]; rfl)
          have f := hf 2
          have Hm := Lib.hid hm
          have ha := hadd.out
          clear hm hf hadd
          go_wp2
          go_region
          go_wp2
          exact ⟨⟨3, by omega, by omega, rfl, rfl, by rw [heap_drew, heap_setCell_same _ g 2 _ _ _ Hm.out, mixC_set s t 2 wd (by omega)], grown_set hB 2 _⟩, by simp [intOf]⟩
        · have c := (cell_of_row wr g 3 _ _ _ hm).trans (show (mixC s t 3 wd)[3]? = some (.int .u64 (lb s 3)) by unfold mixC; rw [mixP_self]; rfl)
          have f := hf 3
          have Hm := Lib.hid hm
          have ha := hadd.out
          clear hm hf hadd
          go_wp2
          go_region
          go_wp2
          exact ⟨⟨4, by omega, by omega, rfl, rfl, by rw [heap_drew, heap_setCell_same _ g 3 _ _ _ Hm.out, mixC_set s t 3 wd (by omega)], grown_set hB 3 _⟩, by simp [intOf]⟩

/-- The place given as a sum of two. -/
theorem addAt_ij (s i j n g : Nat) (wd : Int) (hp : i + j ≤ 7) (hn : n < B64) (w : World) (hg : w.heap[g]? = some (.cells (Dc s wd) 153 (0, 0))) :
    Calls Tryz.prog 127 #[.pointer (some ⟨g, 0, none⟩), .int .i64 ((i : Int) + (j : Int)), .int .u64 n] w fun e w' => e = .returned (.tuple #[]) ∧ w'.heap[g]? = some (.cells (Dc (s + n * B64 ^ (i + j)) wd) 153 (0, 0)) ∧ w.grownBy w' (some g) := by
  rw [← Int.natCast_add]; exact addAt_any s (i + j) n g wd (by omega) hn w hg
theorem addAt_ij1 (s i j n g : Nat) (wd : Int) (hp : i + j ≤ 7) (hn : n < B64) (w : World) (hg : w.heap[g]? = some (.cells (Dc s wd) 153 (0, 0))) :
    Calls Tryz.prog 127 #[.pointer (some ⟨g, 0, none⟩), .int .i64 ((i : Int) + (j : Int) + 1), .int .u64 n] w fun e w' => e = .returned (.tuple #[]) ∧ w'.heap[g]? = some (.cells (Dc (s + n * B64 ^ (i + j + 1)) wd) 153 (0, 0)) ∧ w.grownBy w' (some g) := by
  have e : (i : Int) + (j : Int) + 1 = ((i + j + 1 : Nat) : Int) := by omega
  rw [e]; exact addAt_any s (i + j + 1) n g wd (by omega) hn w hg

end Go.Proofs.YtenepkgjdoddgaaGreatDoor

/- Layer word: a word under way takes a digit; the word of bytes (word.Read). -/
namespace Go.Proofs.YtenepkgjdoddgaaGreatDoor
open Go.RowKit
attribute [local go_sem] ix0 ix1 ix2 ix3
theorem or_add (k a b : Nat) (hb : b < 2 ^ k) (hab : 2 ^ k * a + b < 18446744073709551616) : bits .or .u64 ((2 ^ k * a : Nat) : Int) (b : Int) = ((2 ^ k * a + b : Nat) : Int) := by
  rw [bits_or_u64_nat _ _ (by omega) (by omega), ← Nat.two_pow_add_eq_or_of_lt hb]
theorem wrap_mul (x c : Nat) : IntKind.u64.wrap ((x : Int) * (c : Int)) = ((x * c % 18446744073709551616 : Nat) : Int) := by rw [mulN, wrapM]
/-- A number that is moved up, with what comes from below. -/
theorem or_i (s c D i k : Nat) (hc : c = 2 ^ k) (hB : c * D = 18446744073709551616) (hi : 0 < c) : bits .or .u64 (IntKind.u64.wrap (lb s (i + 1) * (c : Int))) (lb s i / (D : Int)) = lb (s * c) (i + 1) := by
  have e := limb_mul s c D i (by unfold B64; exact hB.symm) hi
  unfold lb
  rw [e, wrap_mul, ← Int.natCast_ediv]
  have hD : 0 < D := by rcases Nat.eq_zero_or_pos D with h | h; · rw [h, Nat.mul_zero] at hB; omega
                        · exact h
  have hy : (s / B64 ^ i % B64) / D < c := by
    refine Nat.div_lt_of_lt_mul ?_
    have := Nat.mod_lt (s / B64 ^ i) B64_pos
    unfold B64 at *; rw [Nat.mul_comm, hB]; exact this
  have e5 : (s / B64 ^ (i + 1) % B64) * c % 18446744073709551616 = 2 ^ k * ((s / B64 ^ (i + 1) % B64) % D) := by
    rw [← hB, Nat.mul_comm _ c, Nat.mul_mod_mul_left, hc]
  have hu : (s / B64 ^ (i + 1) % B64) % D < D := Nat.mod_lt _ hD
  have e6 : (s / B64 ^ (i + 1) % B64) * c % B64 = 2 ^ k * ((s / B64 ^ (i + 1) % B64) % D) := e5
  rw [e5, e6]
  generalize (s / B64 ^ i % B64) / D = y at *
  generalize (s / B64 ^ (i + 1) % B64) % D = u at *
  refine or_add k u y (by rw [← hc]; exact hy) ?_
  rw [← hc]
  have : c * u + c ≤ c * D := by rw [← Nat.mul_succ]; exact Nat.mul_le_mul_left _ hu
  omega
theorem or_0 (s c D k : Nat) (hc : c = 2 ^ k) (hB : c * D = 18446744073709551616) (hi : 0 < c) : bits .or .u64 (IntKind.u64.wrap (lb s 0 * (c : Int))) 0 = lb (s * c) 0 := by
  have e := limb_mul0 s c
  unfold lb
  rw [e, wrap_mul]
  have hD : 0 < D := by rcases Nat.eq_zero_or_pos D with h | h; · rw [h, Nat.mul_zero] at hB; omega
                        · exact h
  have e5 : (s / B64 ^ 0 % B64) * c % 18446744073709551616 = 2 ^ k * ((s / B64 ^ 0 % B64) % D) := by
    rw [← hB, Nat.mul_comm _ c, Nat.mul_mod_mul_left, hc]
  have hu : (s / B64 ^ 0 % B64) % D < D := Nat.mod_lt _ hD
  have e6 : (s / B64 ^ 0 % B64) * c % B64 = 2 ^ k * ((s / B64 ^ 0 % B64) % D) := e5
  rw [e5, e6]
  generalize (s / B64 ^ 0 % B64) % D = u at *
  have h := or_add k u 0 (by rw [← hc]; exact hi) (by
    rw [← hc]
    have : c * u + c ≤ c * D := by rw [← Nat.mul_succ]; exact Nat.mul_le_mul_left _ hu
    omega)
  exact h
theorem grown_set' {w wr : World} {g : Nat} (h : w.grownBy wr (some g)) (k : Nat) (v : Value) : w.grownBy (wr.setCell ⟨g, k, none⟩ v) (some g) :=
  ⟨h.os, h.tape, h.output, by have := h.size; simp [World.setCell]; exact this, fun i hi hne => (Below.heap_setCell wr ⟨g, k, none⟩ v i (fun e => hne (by rw [e]))).trans (h.block i hi hne)⟩
theorem grown_trans {w X Y : World} {row : Option Nat} (h : w.grownBy X row) (k : X.grownBy Y row) : w.grownBy Y row :=
  ⟨k.os.trans h.os, k.tape.trans h.tape, k.output.trans h.output, Nat.le_trans h.size k.size, fun i hi hne => (k.block i (Nat.lt_of_lt_of_le hi h.size) hne).trans (h.block i hi hne)⟩
theorem grown_drew {w wr : World} {row : Option Nat} (h : w.grownBy wr row) : w.grownBy wr.drew row := ⟨h.os, h.tape, h.output, h.size, h.block⟩

theorem shift_8 (s g : Nat) (w : World) (hg : w.heap[g]? = some (.cells (Dc s 8) 153 (0, 0))) :
    Calls Tryz.prog 126 #[.pointer (some ⟨g, 0, none⟩), .int .i64 8] w fun e w' => e = .returned (.tuple #[]) ∧ w'.heap[g]? = some (.cells (Dc (s * 256) 8) 153 (0, 0)) ∧ w.grownBy w' (some g) := by
  have c0 := (cell_of_row w g 0 _ _ _ hg).trans (show (Dc s 8)[0]? = some (.int .u64 (lb s 0)) from rfl)
  have c1 := (cell_of_row w g 1 _ _ _ hg).trans (show (Dc s 8)[1]? = some (.int .u64 (lb s 1)) from rfl)
  have c2 := (cell_of_row w g 2 _ _ _ hg).trans (show (Dc s 8)[2]? = some (.int .u64 (lb s 2)) from rfl)
  have c3 := (cell_of_row w g 3 _ _ _ hg).trans (show (Dc s 8)[3]? = some (.int .u64 (lb s 3)) from rfl)
  have f0 := frozen_of_row w g 0 _ _ hg
  have f1 := frozen_of_row w g 1 _ _ hg
  have f2 := frozen_of_row w g 2 _ _ hg
  have f3 := frozen_of_row w g 3 _ _ hg
  have b0 := lb_nonneg s 0
  have b1 := lb_nonneg s 1
  have b2 := lb_nonneg s 2
  have b3 := lb_nonneg s 3
  have Hg := Lib.hid hg
  clear hg
  go_enter Tryz.func126, Tryz.ntmps126
  go_wp2
  refine wp_loop_rounds 5 ?_
  iterate 4 (rw [rounds_succ]; go_wp2; go_region; go_wp2; go_region; go_wp2)
  rw [rounds_succ]
  go_wp2
  go_end0
  have o0 : bits .or .u64 (IntKind.u64.wrap (lb s 0 * 256)) 0 = lb (s * 256) 0 := or_0 s 256 72057594037927936 8 (by decide) (by decide) (by decide)
  have o1 : bits .or .u64 (IntKind.u64.wrap (lb s 1 * 256)) (lb s 0 / 72057594037927936) = lb (s * 256) 1 := or_i s 256 72057594037927936 0 8 (by decide) (by decide) (by decide)
  have o2 : bits .or .u64 (IntKind.u64.wrap (lb s 2 * 256)) (lb s 1 / 72057594037927936) = lb (s * 256) 2 := or_i s 256 72057594037927936 1 8 (by decide) (by decide) (by decide)
  have o3 : bits .or .u64 (IntKind.u64.wrap (lb s 3 * 256)) (lb s 2 / 72057594037927936) = lb (s * 256) 3 := or_i s 256 72057594037927936 2 8 (by decide) (by decide) (by decide)
  rw [o0, o1, o2, o3]
  refine ⟨rfl, heap_setCell_same _ g 3 _ _ _ (heap_setCell_same _ g 2 _ _ _ (heap_setCell_same _ g 1 _ _ _ (heap_setCell_same w g 0 _ _ _ Hg.out))), ?_⟩
  exact grown_drew (grown_drew (grown_drew (grown_drew (grown_drew (grown_drew (grown_drew (grown_drew (grown_set' (grown_set' (grown_set' (grown_set' (grown_refl w g) 0 _) 1 _) 2 _) 3 _))))))))

theorem shift_4 (s g : Nat) (w : World) (hg : w.heap[g]? = some (.cells (Dc s 4) 153 (0, 0))) :
    Calls Tryz.prog 126 #[.pointer (some ⟨g, 0, none⟩), .int .i64 4] w fun e w' => e = .returned (.tuple #[]) ∧ w'.heap[g]? = some (.cells (Dc (s * 16) 4) 153 (0, 0)) ∧ w.grownBy w' (some g) := by
  have c0 := (cell_of_row w g 0 _ _ _ hg).trans (show (Dc s 4)[0]? = some (.int .u64 (lb s 0)) from rfl)
  have c1 := (cell_of_row w g 1 _ _ _ hg).trans (show (Dc s 4)[1]? = some (.int .u64 (lb s 1)) from rfl)
  have c2 := (cell_of_row w g 2 _ _ _ hg).trans (show (Dc s 4)[2]? = some (.int .u64 (lb s 2)) from rfl)
  have c3 := (cell_of_row w g 3 _ _ _ hg).trans (show (Dc s 4)[3]? = some (.int .u64 (lb s 3)) from rfl)
  have f0 := frozen_of_row w g 0 _ _ hg
  have f1 := frozen_of_row w g 1 _ _ hg
  have f2 := frozen_of_row w g 2 _ _ hg
  have f3 := frozen_of_row w g 3 _ _ hg
  have b0 := lb_nonneg s 0
  have b1 := lb_nonneg s 1
  have b2 := lb_nonneg s 2
  have b3 := lb_nonneg s 3
  have Hg := Lib.hid hg
  clear hg
  go_enter Tryz.func126, Tryz.ntmps126
  go_wp2
  refine wp_loop_rounds 5 ?_
  iterate 4 (rw [rounds_succ]; go_wp2; go_region; go_wp2; go_region; go_wp2)
  rw [rounds_succ]
  go_wp2
  go_end0
  have o0 : bits .or .u64 (IntKind.u64.wrap (lb s 0 * 16)) 0 = lb (s * 16) 0 := or_0 s 16 1152921504606846976 4 (by decide) (by decide) (by decide)
  have o1 : bits .or .u64 (IntKind.u64.wrap (lb s 1 * 16)) (lb s 0 / 1152921504606846976) = lb (s * 16) 1 := or_i s 16 1152921504606846976 0 4 (by decide) (by decide) (by decide)
  have o2 : bits .or .u64 (IntKind.u64.wrap (lb s 2 * 16)) (lb s 1 / 1152921504606846976) = lb (s * 16) 2 := or_i s 16 1152921504606846976 1 4 (by decide) (by decide) (by decide)
  have o3 : bits .or .u64 (IntKind.u64.wrap (lb s 3 * 16)) (lb s 2 / 1152921504606846976) = lb (s * 16) 3 := or_i s 16 1152921504606846976 2 4 (by decide) (by decide) (by decide)
  rw [o0, o1, o2, o3]
  refine ⟨rfl, heap_setCell_same _ g 3 _ _ _ (heap_setCell_same _ g 2 _ _ _ (heap_setCell_same _ g 1 _ _ _ (heap_setCell_same w g 0 _ _ _ Hg.out))), ?_⟩
  exact grown_drew (grown_drew (grown_drew (grown_drew (grown_drew (grown_drew (grown_drew (grown_drew (grown_set' (grown_set' (grown_set' (grown_set' (grown_refl w g) 0 _) 1 _) 2 _) 3 _))))))))


theorem take_8 (s d g : Nat) (hd : d < B64) (w : World) (hg : w.heap[g]? = some (.cells (Dc s 8) 153 (0, 0))) :
    Calls Tryz.prog 99 #[.pointer (some ⟨g, 0, none⟩), .int .u64 d] w fun e w' => e = .returned (.tuple #[]) ∧ w'.heap[g]? = some (.cells (Dc (s * 256 + d) 8) 153 (0, 0)) ∧ w.grownBy w' (some g) := by
  have c4 := (cell_of_row w g 4 _ _ _ hg).trans (show (Dc s 8)[4]? = some (.int .i64 8) from rfl)
  have Hg := Lib.hid hg
  have e : Hid (s * 256 + d * B64 ^ 0 = s * 256 + d) := by show _ = _; rw [Nat.pow_zero, Nat.mul_one]
  have ha : Hid (∀ w1, w1.heap[g]? = some (.cells (Dc (s * 256) 8) 153 (0, 0)) → Calls Tryz.prog 127 #[.pointer (some ⟨g, 0, none⟩), .int .i64 0, .int .u64 d] w1 fun e w' => e = .returned (.tuple #[]) ∧ w'.heap[g]? = some (.cells (Dc (s * 256 + d) 8) 153 (0, 0)) ∧ w1.grownBy w' (some g)) := fun w1 h1 => by
    have := addAt_any (s * 256) 0 d g 8 (by omega) hd w1 h1
    rw [e.out] at this; exact this
  clear hg e
  go_enter Tryz.func99, Tryz.ntmps99
  go_wp2
  go_region_with (go_at_call 126; refine (shift_8 s g _ (by exact Hg.out)).mono ?_; rintro e w1 ⟨rfl, h1, hg1⟩)
  go_wp2_with (go_at_call 127; refine (ha.out _ h1).mono ?_; rintro e w2 ⟨rfl, h2, hg2⟩)
  go_end0
  exact ⟨rfl, h2, grown_trans ⟨hg1.os, hg1.tape, hg1.output, hg1.size, hg1.block⟩ hg2⟩

theorem take_4 (s d g : Nat) (hd : d < B64) (w : World) (hg : w.heap[g]? = some (.cells (Dc s 4) 153 (0, 0))) :
    Calls Tryz.prog 99 #[.pointer (some ⟨g, 0, none⟩), .int .u64 d] w fun e w' => e = .returned (.tuple #[]) ∧ w'.heap[g]? = some (.cells (Dc (s * 16 + d) 4) 153 (0, 0)) ∧ w.grownBy w' (some g) := by
  have c4 := (cell_of_row w g 4 _ _ _ hg).trans (show (Dc s 4)[4]? = some (.int .i64 4) from rfl)
  have Hg := Lib.hid hg
  have e : Hid (s * 16 + d * B64 ^ 0 = s * 16 + d) := by show _ = _; rw [Nat.pow_zero, Nat.mul_one]
  have ha : Hid (∀ w1, w1.heap[g]? = some (.cells (Dc (s * 16) 4) 153 (0, 0)) → Calls Tryz.prog 127 #[.pointer (some ⟨g, 0, none⟩), .int .i64 0, .int .u64 d] w1 fun e w' => e = .returned (.tuple #[]) ∧ w'.heap[g]? = some (.cells (Dc (s * 16 + d) 4) 153 (0, 0)) ∧ w1.grownBy w' (some g)) := fun w1 h1 => by
    have := addAt_any (s * 16) 0 d g 4 (by omega) hd w1 h1
    rw [e.out] at this; exact this
  clear hg e
  go_enter Tryz.func99, Tryz.ntmps99
  go_wp2
  go_region_with (go_at_call 126; refine (shift_4 s g _ (by exact Hg.out)).mono ?_; rintro e w1 ⟨rfl, h1, hg1⟩)
  go_wp2_with (go_at_call 127; refine (ha.out _ h1).mono ?_; rintro e w2 ⟨rfl, h2, hg2⟩)
  go_end0
  exact ⟨rfl, h2, grown_trans ⟨hg1.os, hg1.tape, hg1.output, hg1.size, hg1.block⟩ hg2⟩

end Go.Proofs.YtenepkgjdoddgaaGreatDoor

/- Layer word: the iterator of a word's numbers, and the product of words, which goes over both words' numbers. -/
namespace Go.Proofs.YtenepkgjdoddgaaGreatDoor
open Go.RowKit Go.Shelf
attribute [local go_sem] Oper.semAt_some
theorem index_k (a k : Nat) (hk : k < 4) (w : World) : (Instr.index 58 (W a) (.int .i64 k)).run Tryz.prog w = .ok (.int .u64 (lb a k)) w := by
  match k, hk with
  | 0, _ => exact ix0 _ _ _ _ w
  | 1, _ => exact ix1 _ _ _ _ w
  | 2, _ => exact ix2 _ _ _ _ w
  | 3, _ => exact ix3 _ _ _ _ w

/-- A block of cells that may be written. -/
def Blk (X : World) (g : Nat) (t : TypeId) (cs : Array Value) : Prop := X.heap[g]? = some (.cells cs t (0, 0))
theorem Blk.kept {X Y : World} {row : Option Nat} {g : Nat} {t : TypeId} {cs : Array Value} (h : Blk X g t cs) (hg : X.grownBy Y row) (hne : some g ≠ row) : Blk Y g t cs :=
  (hg.block g (Array.getElem?_eq_some_iff.1 h).1 hne).trans h
theorem Blk.lt {X : World} {g : Nat} {t : TypeId} {cs : Array Value} (h : Blk X g t cs) : g < X.heap.size := (Array.getElem?_eq_some_iff.1 h).1
theorem Blk.alloc {X : World} {g : Nat} {t : TypeId} {cs : Array Value} (h : Blk X g t cs) (o : Obj) : Blk (X.alloc o) g t cs := (heap_alloc_old _ _ h.lt).trans h
theorem Blk.new (X : World) (t : TypeId) (cs : Array Value) : Blk (X.alloc (.cells cs t)) X.heap.size t cs := heap_alloc_new X _
theorem blk_own {β : Type} (g : Nat) (t : TypeId) (f : β → Array Value) : Own (fun s X => Blk X g t (f s)) := fun s X Y row hs hg hrow =>
  hs.kept hg (fun e' => by obtain ⟨o, ho, hc⟩ := hrow g e'.symm; rw [show X.heap[g]? = _ from hs] at ho; cases ho; cases hc)

theorem balloc' {n : Nat} {X : World} (h : n ≤ X.heap.size) (o : Obj) : Below n X (X.alloc o) := (Below.refl n X).alloc h o
theorem Dc_congr {s t : Nat} (wd : Int) (h : s % MM = t % MM) : Dc s wd = Dc t wd := by
  unfold Dc; rw [lb_congr h 0 (by omega), lb_congr h 1 (by omega), lb_congr h 2 (by omega), lb_congr h 3 (by omega)]

end Go.Proofs.YtenepkgjdoddgaaGreatDoor

/- Layer word: the word of bytes (word.Read), and a word's bytes (word.Bytes). -/
namespace Go.Proofs.YtenepkgjdoddgaaGreatDoor
open Go.RowKit
attribute [local go_sem] ix0 ix1 ix2 ix3
/-- The number of the first k bytes, the highest first. -/
def numB (f : Nat → Nat) : Nat → Nat
  | 0 => 0
  | k + 1 => numB f k * 256 + f k
/-- Bytes lie in a row. -/
def BytesAt (w : World) (b o n : Nat) (f : Nat → Nat) : Prop := ∀ k, k < n → f k < 256 ∧ w.cell? ⟨b, o + k, none⟩ = some (.int .u8 (f k))

set_option maxHeartbeats 1000000 in
theorem read_any (b o n cap : Nat) (f : Nat → Nat) (w : World) (hn : n ≤ 32) (hb : b < w.heap.size) (hf : BytesAt w b o n f) :
    Calls Tryz.prog 71 #[.slice (some ⟨b, o, none⟩) n cap] w fun e w' => e = .returned (.tuple #[W (numB f n), .int .i64 0]) ∧ Below w.heap.size w w' := by
  go_enter Tryz.func71, Tryz.ntmps71
  go_wp2
  go_loopw [14] (fun i wr => ∃ k : Nat, k ≤ n ∧ i = .int .i64 k ∧ Blk wr (w.heap.size + 1) 153 (Dc (numB f k) 8) ∧ Blk wr w.heap.size 58 #[.int .u64 0, .int .u64 0, .int .u64 0, .int .u64 0] ∧ Below w.heap.size w wr) (fun i _ => n - (intOf i).toNat)
  case atStart =>
    refine ⟨0, Nat.zero_le _, rfl, ?_, (Blk.new w _ _).alloc _, balloc (balloc (Below.refl _ _) _) _⟩
    have h := Blk.new (w.alloc (.cells #[.int .u64 0, .int .u64 0, .int .u64 0, .int .u64 0] 58)) 153 #[.int .u64 0, .int .u64 0, .int .u64 0, .int .u64 0, .int .i64 8]
    unfold Dc numB; simp only [lb_zero]; simpa using h
  case round =>
    obtain ⟨k, hk, rfl, hs, hr, hB⟩ := hrel
    by_cases hlt : k < n
    · obtain ⟨hf1, hc1⟩ := hf k hlt
      have hc := (hB.cell (p := ⟨b, o + k, none⟩) hb).trans hc1
      have HS := Lib.hid hs
      have HR := Lib.hid hr
      clear hc1 hs hr
      go_wp2_with (go_at_call 99; refine (take_8 (numB f k) (f k) (w.heap.size + 1) (by unfold B64; omega) _ HS.out).mono ?_; rintro e w1 ⟨rfl, hs1, hb1⟩)
      go_roundw
      case rel => exact ⟨k + 1, by omega, by go_num, hs1, HR.out.kept hb1 (by simp), hB.grown hb1 hB.size (fun j e => by cases e; omega)⟩
      case measure => simp [intOf]; omega
    · obtain rfl : k = n := by omega
      have c0 := (cell_of_row wr _ 0 _ _ _ hs).trans (show (Dc (numB f k) 8)[0]? = some (.int .u64 (lb (numB f k) 0)) from rfl)
      have c1 := (cell_of_row wr _ 1 _ _ _ hs).trans (show (Dc (numB f k) 8)[1]? = some (.int .u64 (lb (numB f k) 1)) from rfl)
      have c2 := (cell_of_row wr _ 2 _ _ _ hs).trans (show (Dc (numB f k) 8)[2]? = some (.int .u64 (lb (numB f k) 2)) from rfl)
      have c3 := (cell_of_row wr _ 3 _ _ _ hs).trans (show (Dc (numB f k) 8)[3]? = some (.int .u64 (lb (numB f k) 3)) from rfl)
      have r0 := cell_of_row wr _ 0 _ _ _ hr
      have r1 := cell_of_row wr _ 1 _ _ _ hr
      have r2 := cell_of_row wr _ 2 _ _ _ hr
      have r3 := cell_of_row wr _ 3 _ _ _ hr
      have f0 := frozen_of_row wr _ 0 _ _ hr
      have f1 := frozen_of_row wr _ 1 _ _ hr
      have f2 := frozen_of_row wr _ 2 _ _ hr
      have f3 := frozen_of_row wr _ 3 _ _ hr
      clear hs hr hf
      go_wp2
      exact bodyPost_ret (v := .tuple #[W (numB f k), .int .i64 0]) (by simp [results, Tryz.results71, go_sem, r0, r1, r2, r3]) rfl ⟨rfl, (((hB.setCell (p := ⟨w.heap.size, 0, none⟩) (Nat.le_refl _) _).setCell (p := ⟨w.heap.size, 1, none⟩) (Nat.le_refl _) _).setCell (p := ⟨w.heap.size, 2, none⟩) (Nat.le_refl _) _).setCell (p := ⟨w.heap.size, 3, none⟩) (Nat.le_refl _) _⟩

theorem W_zero : W 0 = .agg #[.int .u64 0, .int .u64 0, .int .u64 0, .int .u64 0] := by unfold W; simp only [lb_zero]

theorem read_nil (w : World) :
    Calls Tryz.prog 71 #[.slice none 0 0] w fun e w' => e = .returned (.tuple #[W 0, .int .i64 0]) ∧ Below w.heap.size w w' := by
  rw [W_zero]
  go_enter Tryz.func71, Tryz.ntmps71
  go_wp2
  refine wp_loop_rounds 1 ?_
  rw [rounds_succ]; go_wp2
  exact bodyPost_ret (v := .tuple #[.agg #[.int .u64 0, .int .u64 0, .int .u64 0, .int .u64 0], .int .i64 0]) (by simp [results, Tryz.results71, go_sem]) rfl ⟨rfl, balloc (balloc (Below.refl _ _) _) _⟩

theorem read_long (b o n cap : Nat) (w : World) (hn : 32 < n) (hm : n ≤ 9223372036854775807) :
    Calls Tryz.prog 71 #[.slice (some ⟨b, o, none⟩) n cap] w fun e w' => e = .returned (.tuple #[W 0, .int .i64 3]) ∧ Below w.heap.size w w' := by
  rw [W_zero]
  go_enter Tryz.func71, Tryz.ntmps71
  go_wp2
  exact bodyPost_ret (v := .tuple #[.agg #[.int .u64 0, .int .u64 0, .int .u64 0, .int .u64 0], .int .i64 3]) (by simp [results, Tryz.results71, go_sem]) rfl ⟨rfl, balloc (Below.refl _ _) _⟩

/-- 32 cells of bytes, of which the lowest k are written. -/
def byC (a k : Nat) : Array Value := ((List.range 32).map fun p => Value.int .u8 (if 31 - p < k then ((byA a (31 - p) : Nat) : Int) else 0)).toArray
theorem byC_get (a k p : Nat) (hp : p < 32) : (byC a k)[p]? = some (.int .u8 (if 31 - p < k then ((byA a (31 - p) : Nat) : Int) else 0)) := by
  unfold byC; simp [hp]
theorem byC_size (a k : Nat) : (byC a k).size = 32 := by unfold byC; simp
theorem byC_set (a k : Nat) (hk : k < 32) : (byC a k).setIfInBounds (31 - k) (.int .u8 (byA a k : Nat)) = byC a (k + 1) := by
  apply Array.ext_getElem?
  intro p
  by_cases hp : p < 32
  · rw [Array.getElem?_setIfInBounds, byC_size, byC_get _ _ _ hp, byC_get _ _ _ hp]
    by_cases h : 31 - k = p
    · subst h
      rw [if_pos rfl, if_pos (by omega), if_pos (by omega), show 31 - (31 - k) = k from by omega]
    · rw [if_neg h]
      by_cases g : 31 - p < k
      · rw [if_pos g, if_pos (by omega)]
      · rw [if_neg g, if_neg (by omega)]
  · rw [Array.getElem?_eq_none (by rw [Array.size_setIfInBounds, byC_size]; omega), Array.getElem?_eq_none (by rw [byC_size]; omega)]
theorem byC_zero (a : Nat) : byC a 0 = #[.int .u8 0, .int .u8 0, .int .u8 0, .int .u8 0, .int .u8 0, .int .u8 0, .int .u8 0, .int .u8 0, .int .u8 0, .int .u8 0, .int .u8 0, .int .u8 0, .int .u8 0, .int .u8 0, .int .u8 0, .int .u8 0, .int .u8 0, .int .u8 0, .int .u8 0, .int .u8 0, .int .u8 0, .int .u8 0, .int .u8 0, .int .u8 0, .int .u8 0, .int .u8 0, .int .u8 0, .int .u8 0, .int .u8 0, .int .u8 0, .int .u8 0, .int .u8 0] := by
  unfold byC; simp only [Nat.not_lt_zero, if_false]; rfl

set_option maxRecDepth 100000 in
set_option maxHeartbeats 1000000 in
theorem bytes_any (a : Nat) (w : World) :
    Calls Tryz.prog 73 #[W a] w fun e w' => e = .returned (.slice (some ⟨w.heap.size + 1, 0, none⟩) 32 32) ∧ Blk w' (w.heap.size + 1) 5 (byC a 32) ∧ Below w.heap.size w w' := by
  have hmk : ∀ w, (Instr.makeSlice 86 (.int .i64 32) (.int .i64 32)).run Tryz.prog w = .ok (.slice (some ⟨w.heap.size, 0, none⟩) 32 32) (w.alloc (.cells (byC a 0) 5)) := fun w => by rw [byC_zero]; kernel_rfl
  go_enter Tryz.func73, Tryz.ntmps73
  go_wp2
  go_loopw [8] (fun i wr => ∃ k : Nat, k ≤ 32 ∧ i = .int .i64 k ∧ Blk wr (w.heap.size + 1) 5 (byC a k) ∧ Blk wr w.heap.size 58 (Wc a) ∧ Below w.heap.size w wr) (fun i _ => 32 - (intOf i).toNat)
  case atStart => exact ⟨0, Nat.zero_le _, rfl, by have h := Blk.new (w.alloc (.cells (Wc a) 58)) 5 (byC a 0); simpa using h, (Blk.new w _ _).alloc _, balloc (balloc (Below.refl _ _) _) _⟩
  case round =>
    obtain ⟨k, hk, rfl, hs, hr, hB⟩ := hrel
    by_cases hlt : k < 32
    · have hc : wr.cell? ⟨w.heap.size, k / 8, none⟩ = some (.int .u64 (lb a (k / 8))) := (cell_of_row wr _ _ _ _ _ hr).trans (by
        have : k / 8 = 0 ∨ k / 8 = 1 ∨ k / 8 = 2 ∨ k / 8 = 3 := by omega
        rcases this with h | h | h | h <;> rw [h] <;> rfl)
      have hd : wr.cell? ⟨w.heap.size + 1, 31 - k, none⟩ = some (.int .u8 (if 31 - (31 - k) < k then ((byA a (31 - (31 - k)) : Nat) : Int) else 0)) := (cell_of_row wr _ _ _ _ _ hs).trans (byC_get a k _ (by omega))
      have hf := frozen_of_row wr _ (31 - k) _ _ hs
      have HS := Lib.hid hs
      have HR := Lib.hid hr
      clear hs hr
      go_wp2
      rw [by_lb]
      refine ⟨⟨k + 1, by omega, by go_num, ?_, HR.out.kept (grown_set' (grown_refl wr (w.heap.size + 1)) (31 - k) _) (by simp), hB.setCell (p := ⟨w.heap.size + 1, 31 - k, none⟩) (by simp) _⟩, by simp [intOf]; omega⟩
      have h := heap_setCell_same wr (w.heap.size + 1) (31 - k) _ _ (.int .u8 (byA a k : Nat)) HS.out
      rw [byC_set a k hlt] at h
      exact h
    · obtain rfl : k = 32 := by omega
      have HS := Lib.hid hs
      clear hs hr
      go_wp2
      go_ret
      exact ⟨rfl, HS.out, hB⟩

end Go.Proofs.YtenepkgjdoddgaaGreatDoor

/- In this seat: what the texts up to Wf hold. -/

