/- Plain numbers for the layer word: the four numbers of 64 bits of a number, what becomes of them in sums and differences. No program. -/
namespace Go.Proofs.Ytcplhalgjjhmdaa

/-- 2^64. -/
def B64 : Nat := 18446744073709551616
/-- 2^256. -/
def MM : Nat := B64 ^ 4
theorem B64_pos : 0 < B64 := by unfold B64; omega
theorem MM_pos : 0 < MM := Nat.pow_pos B64_pos
theorem MM_eq : MM = 115792089237316195423570985008687907853269984665640564039457584007913129639936 := by unfold MM B64; decide +kernel

/-- The i-th number of 64 bits of n, the lowest first. -/
def lb (n i : Nat) : Int := ((n / B64 ^ i % B64 : Nat) : Int)
theorem lb_nonneg (n i : Nat) : 0 ≤ lb n i := Int.natCast_nonneg _
theorem lb_le (n i : Nat) : lb n i ≤ 18446744073709551615 := by
  unfold lb; have := Nat.mod_lt (n / B64 ^ i) B64_pos; unfold B64 at *; omega

theorem lb_zero (i : Nat) : lb 0 i = 0 := by unfold lb; rw [Nat.zero_div, Nat.zero_mod]; rfl

/-- The carry into the i-th number of a sum. -/
def cy (a b i : Nat) : Int := (((a % B64 ^ i + b % B64 ^ i) / B64 ^ i : Nat) : Int)
/-- The borrow into the i-th number of a difference. -/
def bw (a b i : Nat) : Int := ((if a % B64 ^ i < b % B64 ^ i then 1 else 0 : Nat) : Int)
theorem cy_zero (a b : Nat) : cy a b 0 = 0 := by simp [cy, Nat.mod_one]
theorem bw_zero (a b : Nat) : bw a b 0 = 0 := by simp [bw, Nat.mod_one]

theorem pow_pos' (i : Nat) : 0 < B64 ^ i := Nat.pow_pos B64_pos

/-- a % B^(i+1) in its two parts. -/
theorem mod_succ' (a i : Nat) : a % B64 ^ (i + 1) = a % B64 ^ i + B64 ^ i * (a / B64 ^ i % B64) := by
  rw [Nat.pow_succ, Nat.mod_mul]

theorem cy_le (a b i : Nat) : (a % B64 ^ i + b % B64 ^ i) / B64 ^ i ≤ 1 := by
  have ha := Nat.mod_lt a (pow_pos' i)
  have hb := Nat.mod_lt b (pow_pos' i)
  have : (a % B64 ^ i + b % B64 ^ i) / B64 ^ i < 2 := Nat.div_lt_of_lt_mul (by omega)
  omega

theorem add_div_split (a b p : Nat) (hp : 0 < p) : (a + b) / p = a / p + b / p + (a % p + b % p) / p := by
  have ha := Nat.div_add_mod a p
  have hb := Nat.div_add_mod b p
  have e : a + b = (a % p + b % p) + p * (a / p + b / p) := by rw [Nat.mul_add]; omega
  rw [e, Nat.add_mul_div_left _ _ hp]; omega

theorem lb_add (a b i : Nat) : (a / B64 ^ i % B64 + b / B64 ^ i % B64 + (a % B64 ^ i + b % B64 ^ i) / B64 ^ i) % B64 = (a + b) / B64 ^ i % B64 := by
  rw [add_div_split a b _ (pow_pos' i)]
  simp only [Nat.add_mod, Nat.mod_mod]

theorem cy_add (a b i : Nat) : (a / B64 ^ i % B64 + b / B64 ^ i % B64 + (a % B64 ^ i + b % B64 ^ i) / B64 ^ i) / B64 = (a % B64 ^ (i + 1) + b % B64 ^ (i + 1)) / B64 ^ (i + 1) := by
  rw [mod_succ', mod_succ', Nat.pow_succ, ← Nat.div_div_eq_div_mul]
  have e : a % B64 ^ i + B64 ^ i * (a / B64 ^ i % B64) + (b % B64 ^ i + B64 ^ i * (b / B64 ^ i % B64)) = (a % B64 ^ i + b % B64 ^ i) + B64 ^ i * (a / B64 ^ i % B64 + b / B64 ^ i % B64) := by rw [Nat.mul_add]; omega
  rw [e, Nat.add_mul_div_left _ _ (pow_pos' i)]
  congr 1; omega

/-- What is left of a difference, modulo 2^256. -/
def sb (a b : Nat) : Nat := a + (MM - b % MM)

theorem lb_mod (n i : Nat) (hi : i < 4) : lb (n % MM) i = lb n i := by
  unfold lb MM
  have e : B64 ^ 4 = B64 ^ i * B64 ^ (4 - i) := by rw [← Nat.pow_add]; congr 1; omega
  rw [e, Nat.mod_mul_right_div_self]
  have e2 : B64 ^ (4 - i) = B64 * B64 ^ (4 - i - 1) := by rw [← Nat.pow_succ']; congr 1; omega
  rw [e2, Nat.mod_mul_right_mod]

theorem lb_congr {m n : Nat} (h : m % MM = n % MM) (i : Nat) (hi : i < 4) : lb m i = lb n i := by
  rw [← lb_mod m i hi, h, lb_mod n i hi]

/-- A number from its four parts. -/
def vl (a0 a1 a2 a3 : Nat) : Nat := a0 + B64 * (a1 + B64 * (a2 + B64 * a3))

theorem vl_lt {a0 a1 a2 a3 : Nat} (h0 : a0 < B64) (h1 : a1 < B64) (h2 : a2 < B64) (h3 : a3 < B64) : vl a0 a1 a2 a3 < MM := by
  unfold vl; rw [MM_eq]; unfold B64 at *; omega
theorem vl_0 {a0 : Nat} (a1 a2 a3 : Nat) (h0 : a0 < B64) : lb (vl a0 a1 a2 a3) 0 = a0 := by
  unfold lb vl; rw [Nat.pow_zero, Nat.div_one, Nat.add_mul_mod_self_left, Nat.mod_eq_of_lt h0]
theorem vl_1 {a0 a1 : Nat} (a2 a3 : Nat) (h0 : a0 < B64) (h1 : a1 < B64) : lb (vl a0 a1 a2 a3) 1 = a1 := by
  unfold lb vl; rw [Nat.pow_one, Nat.add_mul_div_left _ _ B64_pos, Nat.div_eq_of_lt h0, Nat.zero_add, Nat.add_mul_mod_self_left, Nat.mod_eq_of_lt h1]
theorem vl_2 {a0 a1 a2 : Nat} (a3 : Nat) (h0 : a0 < B64) (h1 : a1 < B64) (h2 : a2 < B64) : lb (vl a0 a1 a2 a3) 2 = a2 := by
  unfold lb vl; rw [show B64 ^ 2 = B64 * B64 from by rw [Nat.pow_two], ← Nat.div_div_eq_div_mul, Nat.add_mul_div_left _ _ B64_pos, Nat.div_eq_of_lt h0, Nat.zero_add, Nat.add_mul_div_left _ _ B64_pos, Nat.div_eq_of_lt h1, Nat.zero_add, Nat.add_mul_mod_self_left, Nat.mod_eq_of_lt h2]
theorem vl_3 {a0 a1 a2 a3 : Nat} (h0 : a0 < B64) (h1 : a1 < B64) (h2 : a2 < B64) (h3 : a3 < B64) : lb (vl a0 a1 a2 a3) 3 = a3 := by
  unfold lb vl; rw [show B64 ^ 3 = B64 * B64 * B64 from by rw [Nat.pow_succ, Nat.pow_two], ← Nat.div_div_eq_div_mul, ← Nat.div_div_eq_div_mul, Nat.add_mul_div_left _ _ B64_pos, Nat.div_eq_of_lt h0, Nat.zero_add, Nat.add_mul_div_left _ _ B64_pos, Nat.div_eq_of_lt h1, Nat.zero_add, Nat.add_mul_div_left _ _ B64_pos, Nat.div_eq_of_lt h2, Nat.zero_add, Nat.mod_eq_of_lt h3]

/-- Four numbers of 64 bits are those of one number below 2^256. -/
theorem word_of {a0 a1 a2 a3 : Int} (h0 : 0 ≤ a0 ∧ a0 ≤ 18446744073709551615) (h1 : 0 ≤ a1 ∧ a1 ≤ 18446744073709551615) (h2 : 0 ≤ a2 ∧ a2 ≤ 18446744073709551615) (h3 : 0 ≤ a3 ∧ a3 ≤ 18446744073709551615) :
    ∃ n, n < MM ∧ a0 = lb n 0 ∧ a1 = lb n 1 ∧ a2 = lb n 2 ∧ a3 = lb n 3 := by
  obtain ⟨n0, rfl⟩ := Int.eq_ofNat_of_zero_le h0.1
  obtain ⟨n1, rfl⟩ := Int.eq_ofNat_of_zero_le h1.1
  obtain ⟨n2, rfl⟩ := Int.eq_ofNat_of_zero_le h2.1
  obtain ⟨n3, rfl⟩ := Int.eq_ofNat_of_zero_le h3.1
  have g0 : n0 < B64 := by unfold B64; omega
  have g1 : n1 < B64 := by unfold B64; omega
  have g2 : n2 < B64 := by unfold B64; omega
  have g3 : n3 < B64 := by unfold B64; omega
  exact ⟨vl n0 n1 n2 n3, vl_lt g0 g1 g2 g3, (vl_0 _ _ _ g0).symm, (vl_1 _ _ g0 g1).symm, (vl_2 _ g0 g1 g2).symm, (vl_3 g0 g1 g2 g3).symm⟩

/-- A number below 2^256 out of its parts. -/
theorem vl_lb (n : Nat) (h : n < MM) : vl (n / B64 ^ 0 % B64) (n / B64 ^ 1 % B64) (n / B64 ^ 2 % B64) (n / B64 ^ 3 % B64) = n := by
  rw [Nat.pow_zero, Nat.div_one, Nat.pow_one, show B64 ^ 2 = B64 * B64 from by rw [Nat.pow_two], show B64 ^ 3 = B64 * B64 * B64 from by rw [Nat.pow_succ, Nat.pow_two], ← Nat.div_div_eq_div_mul, ← Nat.div_div_eq_div_mul, ← Nat.div_div_eq_div_mul]
  unfold vl; rw [MM_eq] at h; unfold B64; omega

/-- Numbers below 2^256 with like parts are one. -/
theorem lb_inj {m n : Nat} (hm : m < MM) (hn : n < MM) (h0 : lb m 0 = lb n 0) (h1 : lb m 1 = lb n 1) (h2 : lb m 2 = lb n 2) (h3 : lb m 3 = lb n 3) : m = n := by
  unfold lb at h0 h1 h2 h3
  rw [← vl_lb m hm, ← vl_lb n hn, Int.ofNat.inj h0, Int.ofNat.inj h1, Int.ofNat.inj h2, Int.ofNat.inj h3]

/-- Are all parts alike? -/
theorem lb_eq_iff (m n : Nat) : (lb m 0 = lb n 0 ∧ lb m 1 = lb n 1 ∧ lb m 2 = lb n 2 ∧ lb m 3 = lb n 3) ↔ m % MM = n % MM := by
  constructor
  · rintro ⟨h0, h1, h2, h3⟩
    refine lb_inj (Nat.mod_lt _ MM_pos) (Nat.mod_lt _ MM_pos) ?_ ?_ ?_ ?_ <;> rw [lb_mod _ _ (by omega), lb_mod _ _ (by omega)] <;> assumption
  · intro h
    exact ⟨lb_congr h 0 (by omega), lb_congr h 1 (by omega), lb_congr h 2 (by omega), lb_congr h 3 (by omega)⟩

/-- The difference's part, with the borrow that comes in. -/
theorem lb_sub (a b i : Nat) (hi : i < 4) : (a / B64 ^ i % B64 + B64 - b / B64 ^ i % B64 - (if a % B64 ^ i < b % B64 ^ i then 1 else 0)) % B64 = sb a b / B64 ^ i % B64 := by
  have hb := Nat.mod_lt (b / B64 ^ i) B64_pos
  have hMp : MM = B64 ^ i * B64 ^ (4 - i) := by unfold MM; rw [← Nat.pow_add]; congr 1; omega
  have hq : B64 ^ (4 - i) = B64 * B64 ^ (4 - i - 1) := by rw [← Nat.pow_succ']; congr 1; omega
  have hbM := Nat.mod_lt b MM_pos
  have hbp : b % MM % B64 ^ i = b % B64 ^ i := by rw [hMp, Nat.mod_mul_right_mod]
  have hbq : b % MM / B64 ^ i % B64 = b / B64 ^ i % B64 := by rw [hMp, Nat.mod_mul_right_div_self, hq, Nat.mod_mul_right_mod]
  have hlt : b % MM / B64 ^ i < B64 ^ (4 - i) := by rw [hMp, Nat.mod_mul_right_div_self]; exact Nat.mod_lt _ (Nat.pow_pos B64_pos)
  unfold sb
  rw [← hbp, ← hbq] at *
  generalize b % MM = c at *
  have hc := Nat.div_add_mod c (B64 ^ i)
  have ha := Nat.div_add_mod a (B64 ^ i)
  have hcm := Nat.mod_lt c (pow_pos' i)
  have ham := Nat.mod_lt a (pow_pos' i)
  generalize hQ : B64 ^ (4 - i - 1) = Q at *
  have hpp := pow_pos' i
  have hQp : 0 < Q := by rw [← hQ]; exact Nat.pow_pos B64_pos
  generalize B64 ^ i = p at *
  generalize hcd : c / p = cd at *
  generalize hcr : c % p = cr at *
  generalize had : a / p = ad at *
  generalize har : a % p = ar at *
  have hMM : MM = p * (B64 * Q) := by rw [hMp, hq]
  have hBp := B64_pos
  generalize B64 = B at *
  have hcdm := Nat.div_add_mod cd B
  by_cases hlt2 : ar < cr
  · rw [if_pos hlt2]
    have e : a + (MM - c) = (p + ar - cr) + p * (ad + (B * Q - cd - 1)) := by
      rw [hMM, Nat.mul_add, Nat.mul_sub, Nat.mul_sub, ← hc, ← ha]
      have : p * cd + p ≤ p * (B * Q) := by rw [← Nat.mul_succ]; exact Nat.mul_le_mul_left _ (by omega)
      omega
    rw [e, Nat.add_mul_div_left _ _ hpp, Nat.div_eq_of_lt (by omega), Nat.zero_add]
    have hcb : cd % B < B := Nat.mod_lt _ hBp
    have hcq : cd / B < Q := Nat.div_lt_of_lt_mul (by omega)
    have e2 : ad + (B * Q - cd - 1) = (ad % B + B - cd % B - 1) + B * (ad / B + (Q - 1 - cd / B)) := by
      have had2 := Nat.div_add_mod ad B
      rw [Nat.mul_add, Nat.mul_sub, Nat.mul_sub]
      have : B * (cd / B) + B ≤ B * Q := by rw [← Nat.mul_succ]; exact Nat.mul_le_mul_left _ (by omega)
      omega
    rw [e2, Nat.add_mul_mod_self_left]
  · rw [if_neg hlt2]
    have e : a + (MM - c) = (ar - cr) + p * (ad + (B * Q - cd)) := by
      rw [hMM, Nat.mul_add, Nat.mul_sub, ← hc, ← ha]
      have : p * cd + p ≤ p * (B * Q) := by rw [← Nat.mul_succ]; exact Nat.mul_le_mul_left _ (by omega)
      omega
    rw [e, Nat.add_mul_div_left _ _ hpp, Nat.div_eq_of_lt (by omega), Nat.zero_add]
    have hcb : cd % B < B := Nat.mod_lt _ hBp
    have hcq : cd / B < Q := Nat.div_lt_of_lt_mul (by omega)
    have e2 : ad + (B * Q - cd) = (ad % B + B - cd % B - 0) + B * (ad / B + (Q - 1 - cd / B)) := by
      have had2 := Nat.div_add_mod ad B
      rw [Nat.mul_add, Nat.mul_sub, Nat.mul_sub]
      have : B * (cd / B) + B ≤ B * Q := by rw [← Nat.mul_succ]; exact Nat.mul_le_mul_left _ (by omega)
      omega
    rw [e2, Nat.add_mul_mod_self_left]

/-- The borrow that goes out. -/
theorem bw_sub (a b i : Nat) : (if a / B64 ^ i % B64 < b / B64 ^ i % B64 + (if a % B64 ^ i < b % B64 ^ i then 1 else 0) then 1 else 0 : Nat) = (if a % B64 ^ (i + 1) < b % B64 ^ (i + 1) then 1 else 0) := by
  rw [mod_succ', mod_succ']
  have ha := Nat.mod_lt a (pow_pos' i)
  have hb := Nat.mod_lt b (pow_pos' i)
  generalize B64 ^ i = p at *
  generalize a / p % B64 = x
  generalize b / p % B64 = y
  generalize a % p = r at *
  generalize b % p = s at *
  have key : (x < y + (if r < s then 1 else 0)) ↔ (r + p * x < s + p * y) := by
    by_cases h : r < s
    · rw [if_pos h]
      constructor
      · intro h2
        have := Nat.mul_le_mul_left p (show x ≤ y by omega); omega
      · intro h2
        by_cases h3 : x ≤ y
        · omega
        · have := Nat.mul_le_mul_left p (show y + 1 ≤ x by omega); rw [Nat.mul_add] at this; omega
    · rw [if_neg h]
      constructor
      · intro h2
        have := Nat.mul_le_mul_left p (show x + 1 ≤ y by omega); rw [Nat.mul_add] at this; omega
      · intro h2
        by_cases h3 : x < y
        · omega
        · have := Nat.mul_le_mul_left p (show y ≤ x by omega); omega
  simp only [key]

/-- The order of numbers: -1, 0, 1. -/
def cmpN (a b : Nat) : Int := if a < b then -1 else if b < a then 1 else 0
/-- The first number from the highest on that is unlike the other one's; of like ones nought. -/
def fuN (a b : Nat) : Int := if lb a 3 = lb b 3 then (if lb a 2 = lb b 2 then (if lb a 1 = lb b 1 then (if lb a 0 = lb b 0 then 0 else lb a 0) else lb a 1) else lb a 2) else lb a 3
theorem fuN_3 {a b : Nat} (h : lb a 3 ≠ lb b 3) : fuN a b = lb a 3 := by unfold fuN; rw [if_neg h]
theorem fuN_2 {a b : Nat} (h3 : lb a 3 = lb b 3) (h : lb a 2 ≠ lb b 2) : fuN a b = lb a 2 := by unfold fuN; rw [if_pos h3, if_neg h]
theorem fuN_1 {a b : Nat} (h3 : lb a 3 = lb b 3) (h2 : lb a 2 = lb b 2) (h : lb a 1 ≠ lb b 1) : fuN a b = lb a 1 := by unfold fuN; rw [if_pos h3, if_pos h2, if_neg h]
theorem fuN_0 {a b : Nat} (h3 : lb a 3 = lb b 3) (h2 : lb a 2 = lb b 2) (h1 : lb a 1 = lb b 1) (h : lb a 0 ≠ lb b 0) : fuN a b = lb a 0 := by unfold fuN; rw [if_pos h3, if_pos h2, if_pos h1, if_neg h]
theorem fuN_n {a b : Nat} (h3 : lb a 3 = lb b 3) (h2 : lb a 2 = lb b 2) (h1 : lb a 1 = lb b 1) (h : lb a 0 = lb b 0) : fuN a b = 0 := by unfold fuN; rw [if_pos h3, if_pos h2, if_pos h1, if_pos h]

theorem cmpN_lt {a b : Nat} (h : a < b) : cmpN a b = -1 := by unfold cmpN; rw [if_pos h]
theorem cmpN_gt {a b : Nat} (h : b < a) : cmpN a b = 1 := by unfold cmpN; rw [if_neg (by omega), if_pos h]
theorem cmpN_eq (a : Nat) : cmpN a a = 0 := by unfold cmpN; rw [if_neg (by omega), if_neg (by omega)]
theorem cmpN_anti (a b : Nat) : cmpN a b = - cmpN b a := by
  rcases Nat.lt_trichotomy a b with h | h | h
  · rw [cmpN_lt h, cmpN_gt h]
  · subst h; rw [cmpN_eq]; rfl
  · rw [cmpN_lt h, cmpN_gt h]; rfl

/-- The order of two numbers as cmp.Compare tells it. -/
def cmpI (x y : Int) : Int := if x < y then -1 else if y < x then 1 else 0
theorem cmp_fu {a b : Nat} (ha : a < MM) (hb : b < MM) : cmpI (fuN a b) (fuN b a) = cmpN a b := by
  unfold cmpI
  have ea := vl_lb a ha
  have eb := vl_lb b hb
  have na : ∀ i, ((a / B64 ^ i % B64 : Nat) : Int) = lb a i := fun _ => rfl
  have nb : ∀ i, ((b / B64 ^ i % B64 : Nat) : Int) = lb b i := fun _ => rfl
  have ba : ∀ i, a / B64 ^ i % B64 < B64 := fun i => Nat.mod_lt _ B64_pos
  have bb : ∀ i, b / B64 ^ i % B64 < B64 := fun i => Nat.mod_lt _ B64_pos
  have a0 := na 0; have a1 := na 1; have a2 := na 2; have a3 := na 3
  have b0 := nb 0; have b1 := nb 1; have b2 := nb 2; have b3 := nb 3
  have p0 := ba 0; have p1 := ba 1; have p2 := ba 2; have p3 := ba 3
  have q0 := bb 0; have q1 := bb 1; have q2 := bb 2; have q3 := bb 3
  clear na nb ba bb
  generalize a / B64 ^ 0 % B64 = x0 at *
  generalize a / B64 ^ 1 % B64 = x1 at *
  generalize a / B64 ^ 2 % B64 = x2 at *
  generalize a / B64 ^ 3 % B64 = x3 at *
  generalize b / B64 ^ 0 % B64 = y0 at *
  generalize b / B64 ^ 1 % B64 = y1 at *
  generalize b / B64 ^ 2 % B64 = y2 at *
  generalize b / B64 ^ 3 % B64 = y3 at *
  unfold vl B64 at *
  by_cases h3 : lb a 3 = lb b 3
  · by_cases h2 : lb a 2 = lb b 2
    · by_cases h1 : lb a 1 = lb b 1
      · by_cases h0 : lb a 0 = lb b 0
        · have : a = b := by omega
          subst this; rw [cmpN_eq, if_neg (by omega), if_neg (by omega)]
        · rw [fuN_0 h3 h2 h1 h0, fuN_0 h3.symm h2.symm h1.symm (Ne.symm h0)]
          by_cases g : lb a 0 < lb b 0
          · rw [if_pos g, cmpN_lt (by omega)]
          · rw [if_neg g, if_pos (by omega), cmpN_gt (by omega)]
      · rw [fuN_1 h3 h2 h1, fuN_1 h3.symm h2.symm (Ne.symm h1)]
        by_cases g : lb a 1 < lb b 1
        · rw [if_pos g, cmpN_lt (by omega)]
        · rw [if_neg g, if_pos (by omega), cmpN_gt (by omega)]
    · rw [fuN_2 h3 h2, fuN_2 h3.symm (Ne.symm h2)]
      by_cases g : lb a 2 < lb b 2
      · rw [if_pos g, cmpN_lt (by omega)]
      · rw [if_neg g, if_pos (by omega), cmpN_gt (by omega)]
  · rw [fuN_3 h3, fuN_3 (Ne.symm h3)]
    by_cases g : lb a 3 < lb b 3
    · rw [if_pos g, cmpN_lt (by omega)]
    · rw [if_neg g, if_pos (by omega), cmpN_gt (by omega)]

/-! Products, number by number. -/
/-- A sum over a list. -/
def sumL {α : Type} (f : α → Nat) : List α → Nat
  | [] => 0
  | x :: l => f x + sumL f l
theorem sumL_snoc {α : Type} (f : α → Nat) (l : List α) (x : α) : sumL f (l ++ [x]) = sumL f l + f x := by
  induction l with
  | nil => simp [sumL]
  | cons y l ih => simp only [List.cons_append, sumL, ih]; omega
/-- The halves of the product of two words' numbers. -/
def hiN (a i b j : Nat) : Nat := (a / B64 ^ i % B64) * (b / B64 ^ j % B64) / B64
def loN (a i b j : Nat) : Nat := (a / B64 ^ i % B64) * (b / B64 ^ j % B64) % B64
theorem loN_lt (a i b j : Nat) : loN a i b j < B64 := Nat.mod_lt _ B64_pos
theorem hiN_lt (a i b j : Nat) : hiN a i b j < B64 := by
  unfold hiN
  refine Nat.div_lt_of_lt_mul ?_
  have h1 := Nat.mod_lt (a / B64 ^ i) B64_pos
  have h2 := Nat.mod_lt (b / B64 ^ j) B64_pos
  exact Nat.mul_lt_mul'' h1 h2
/-- What two numbers give to the product. -/
def cI (a b i j : Nat) : Nat := (a / B64 ^ i % B64) * (b / B64 ^ j % B64) * B64 ^ (i + j)
theorem cI_halves (a b i j : Nat) : loN a i b j * B64 ^ (i + j) + hiN a i b j * B64 ^ (i + j + 1) = cI a b i j := by
  unfold loN hiN cI
  generalize a / B64 ^ i % B64 * (b / B64 ^ j % B64) = x
  rw [Nat.pow_succ, Nat.mul_comm (B64 ^ (i + j)) B64, ← Nat.mul_assoc, ← Nat.add_mul]
  congr 1
  have := Nat.mod_add_div x B64
  rw [Nat.mul_comm B64] at this; exact this
/-- What one number gives with all of the other word's. -/
def rowF (a b i : Nat) : Nat := cI a b i 0 + cI a b i 1 + cI a b i 2 + cI a b i 3
theorem cI_far (a b i j : Nat) (h : 4 ≤ i + j) : cI a b i j % MM = 0 := by
  unfold cI MM
  have e : B64 ^ (i + j) = B64 ^ 4 * B64 ^ (i + j - 4) := by rw [← Nat.pow_add]; congr 1; omega
  rw [e, Nat.mul_left_comm, Nat.mul_mod_right]
/-- A number's i-th part at its place. -/
def atP (n i : Nat) : Nat := n / B64 ^ i % B64 * B64 ^ i
theorem cI_eq (a b i j : Nat) : cI a b i j = atP a i * atP b j := by
  unfold cI atP; rw [Nat.pow_add, Nat.mul_mul_mul_comm]
theorem rowF_eq (a b i : Nat) : rowF a b i = atP a i * (atP b 0 + atP b 1 + atP b 2 + atP b 3) := by
  unfold rowF; simp only [cI_eq, Nat.mul_add]
theorem atP_sum (n : Nat) : (atP n 0 + atP n 1 + atP n 2 + atP n 3) % MM = n % MM := by
  have h := vl_lb (n % MM) (Nat.mod_lt _ MM_pos)
  have g : ∀ i, i < 4 → n % MM / B64 ^ i % B64 = n / B64 ^ i % B64 := fun i hi => Int.ofNat.inj (lb_mod n i hi)
  rw [g 0 (by omega), g 1 (by omega), g 2 (by omega), g 3 (by omega)] at h
  have e : atP n 0 + atP n 1 + atP n 2 + atP n 3 = n % MM := by
    rw [← h]
    unfold atP vl
    generalize n / B64 ^ 0 % B64 = x0
    generalize n / B64 ^ 1 % B64 = x1
    generalize n / B64 ^ 2 % B64 = x2
    generalize n / B64 ^ 3 % B64 = x3
    simp only [Nat.mul_add, Nat.pow_zero, Nat.mul_one, Nat.pow_one, show B64 ^ 2 = B64 * B64 from Nat.pow_two _, show B64 ^ 3 = B64 * B64 * B64 from by rw [Nat.pow_succ, Nat.pow_two], Nat.mul_comm x1, Nat.mul_comm x2, Nat.mul_comm x3, Nat.mul_assoc, Nat.add_assoc]
  rw [e, Nat.mod_mod]
theorem rows_mul (a b : Nat) : (rowF a b 0 + rowF a b 1 + rowF a b 2 + rowF a b 3) % MM = (a * b) % MM := by
  simp only [rowF_eq, ← Nat.add_mul]
  rw [Nat.mul_mod, atP_sum, atP_sum, ← Nat.mul_mod]

/-- The places of a word's four numbers. -/
def xs4 : List (Fin 4) := [⟨0, by omega⟩, ⟨1, by omega⟩, ⟨2, by omega⟩, ⟨3, by omega⟩]
theorem xs4_take (k : Nat) (hk : k < 4) : xs4.take (k + 1) = xs4.take k ++ [⟨k, hk⟩] := by
  match k, hk with
  | 0, _ | 1, _ | 2, _ | 3, _ => rfl
theorem sum_row (a b : Nat) (x : Fin 4) : sumL (fun y : Fin 4 => cI a b x.val y.val) xs4 = rowF a b x.val := by
  show cI a b x.val 0 + (cI a b x.val 1 + (cI a b x.val 2 + (cI a b x.val 3 + 0))) = rowF a b x.val
  unfold rowF; omega
theorem sum_rows (a b : Nat) : sumL (fun x : Fin 4 => rowF a b x.val) xs4 % MM = (a * b) % MM := by
  rw [← rows_mul]
  show (rowF a b 0 + (rowF a b 1 + (rowF a b 2 + (rowF a b 3 + 0)))) % MM = _
  rw [Nat.add_zero, ← Nat.add_assoc, ← Nat.add_assoc]
/-- What stands behind the first number that lies too far counts for nothing. -/
theorem far_row (a b : Nat) (x : Fin 4) (m : Nat) (q : List (Fin 4)) (y : Fin 4) (h : xs4.take m = q ++ [y]) (h4 : 4 ≤ x.val + y.val) : sumL (fun y : Fin 4 => cI a b x.val y.val) q % MM = rowF a b x.val % MM := by
  have hq : q = (xs4.take m).dropLast := by rw [h]; simp
  have hy : (xs4.take m).getLast? = some y := by rw [h]; simp
  have hx := x.isLt
  have d : ∀ j, 4 ≤ x.val + j → ∃ k, cI a b x.val j = MM * k := fun j hj => Nat.dvd_of_mod_eq_zero (cI_far a b x.val j hj)
  have s1 : ∀ c k : Nat, (c + MM * k) % MM = c % MM := fun c k => Nat.add_mul_mod_self_left c MM k
  subst hq
  unfold rowF
  match m with
  | 0 => exact absurd hy (by simp)
  | 1 =>
    have e : y.val = 0 := by have := congrArg (Option.map Fin.val) hy; exact (Option.some.inj this).symm
    omega
  | 2 =>
    have e : y.val = 1 := by have := congrArg (Option.map Fin.val) hy; exact (Option.some.inj this).symm
    obtain ⟨k1, g1⟩ := d 1 (by omega)
    obtain ⟨k2, g2⟩ := d 2 (by omega)
    obtain ⟨k3, g3⟩ := d 3 (by omega)
    show (cI a b x.val 0 + 0) % MM = _
    rw [g1, g2, g3, s1, s1, s1, Nat.add_zero]
  | 3 =>
    have e : y.val = 2 := by have := congrArg (Option.map Fin.val) hy; exact (Option.some.inj this).symm
    obtain ⟨k2, g2⟩ := d 2 (by omega)
    obtain ⟨k3, g3⟩ := d 3 (by omega)
    show (cI a b x.val 0 + (cI a b x.val 1 + 0)) % MM = _
    rw [g2, g3, s1, s1, Nat.add_zero]
  | m + 4 =>
    have e0 : xs4.take (m + 4) = xs4 := by rw [List.take_of_length_le]; show 4 ≤ m + 4; omega
    rw [e0] at hy ⊢
    have e : y.val = 3 := by have := congrArg (Option.map Fin.val) hy; exact (Option.some.inj this).symm
    obtain ⟨k3, g3⟩ := d 3 (by omega)
    show (cI a b x.val 0 + (cI a b x.val 1 + (cI a b x.val 2 + 0))) % MM = _
    rw [g3, s1, Nat.add_zero, ← Nat.add_assoc]

/-! A word under way is moved up. -/
theorem limb_mul0 (s c : Nat) : s * c / B64 ^ 0 % B64 = (s / B64 ^ 0 % B64) * c % B64 := by
  rw [Nat.pow_zero, Nat.div_one, Nat.div_one, Nat.mod_mul_mod]
theorem limb_mul (s c D i : Nat) (hB : B64 = c * D) (hc : 0 < c) : s * c / B64 ^ (i + 1) % B64 = (s / B64 ^ (i + 1) % B64) * c % B64 + (s / B64 ^ i % B64) / D := by
  have hp := pow_pos' i
  have hD : 0 < D := by rcases Nat.eq_zero_or_pos D with h | h; · rw [h, Nat.mul_zero] at hB; have := B64_pos; omega
                        · exact h
  have hBp := B64_pos
  rw [Nat.pow_succ]
  generalize hP : B64 ^ i = p at *
  have e1 : s * c / (p * B64) = s / (p * B64) * c + (s / p % B64) / D := by
    rw [← Nat.div_div_eq_div_mul, ← Nat.div_div_eq_div_mul]
    have hs := Nat.div_add_mod s p
    have hr := Nat.mod_lt s hp
    generalize s / p = t at *
    generalize s % p = r at *
    have e2 : s * c / p = t * c + r * c / p := by
      rw [← hs, Nat.add_mul, Nat.mul_assoc, Nat.mul_add_div hp]
    have hrho : r * c / p < c := Nat.div_lt_of_lt_mul (by exact Nat.mul_lt_mul_of_pos_right hr hc)
    rw [e2]
    generalize r * c / p = rho at *
    have ht := Nat.div_add_mod t B64
    have e3 : t * c + rho = B64 * (t / B64 * c) + (t % B64 * c + rho) := by
      conv => lhs; rw [← ht]
      rw [Nat.add_mul, Nat.mul_assoc, Nat.add_assoc]
    rw [e3, Nat.mul_add_div hBp]
    congr 1
    rw [hB, ← Nat.div_div_eq_div_mul, Nat.mul_comm _ c, Nat.mul_add_div hc, Nat.div_eq_of_lt hrho, Nat.add_zero]
  rw [e1]
  have hy : (s / p % B64) / D < c := by
    refine Nat.div_lt_of_lt_mul ?_
    rw [Nat.mul_comm, ← hB]; exact Nat.mod_lt _ hBp
  generalize (s / p % B64) / D = y at *
  generalize s / (p * B64) = u
  have e4 : u * c % B64 = c * (u % D) := by rw [hB, Nat.mul_comm u c, Nat.mul_mod_mul_left]
  have e5 : (u % B64) * c % B64 = c * (u % D) := by rw [Nat.mod_mul_mod, e4]
  rw [Nat.add_mod, e4, e5]
  have hu : u % D < D := Nat.mod_lt _ hD
  have : c * (u % D) + c ≤ B64 := by rw [hB, ← Nat.mul_succ]; exact Nat.mul_le_mul_left _ hu
  rw [Nat.mod_eq_of_lt (show y < B64 by omega), Nat.mod_eq_of_lt (by omega)]

/-! Bytes. -/
/-- The j-th byte of a number, the lowest first. -/
def byA (a j : Nat) : Nat := a / 256 ^ j % 256
theorem byA_lt (a j : Nat) : byA a j < 256 := Nat.mod_lt _ (by omega)
theorem B64_256 : B64 = 256 ^ 8 := by unfold B64; rfl
/-- A byte out of the part that holds it. -/
theorem by_part (a q r : Nat) (hr : r < 8) : a / B64 ^ q % B64 / 256 ^ r % 256 = byA a (q * 8 + r) := by
  unfold byA
  rw [B64_256, ← Nat.pow_mul]
  have e : (256 : Nat) ^ 8 = 256 ^ r * 256 ^ (8 - r) := by rw [← Nat.pow_add]; congr 1; omega
  have e2 : (256 : Nat) ^ (8 - r) = 256 * 256 ^ (8 - r - 1) := by rw [← Nat.pow_succ']; congr 1; omega
  rw [show a / 256 ^ (8 * q) % 256 ^ 8 = a / 256 ^ (8 * q) % (256 ^ r * 256 ^ (8 - r)) from by rw [← e], Nat.mod_mul_right_div_self, e2, Nat.mod_mul_right_mod, Nat.div_div_eq_div_mul, ← Nat.pow_add, Nat.mul_comm 8 q]
theorem by_lb (a k : Nat) : lb a (k / 8) / 2 ^ (k % 8 * 8) % 256 = ((byA a k : Nat) : Int) := by
  have h := by_part a (k / 8) (k % 8) (Nat.mod_lt _ (by omega))
  rw [show k / 8 * 8 + k % 8 = k from by omega] at h
  rw [← h]
  unfold lb
  rw [show (256 : Nat) ^ (k % 8) = 2 ^ (k % 8 * 8) from by rw [show (256 : Nat) = 2 ^ 8 from rfl, ← Nat.pow_mul, Nat.mul_comm]]
  simp only [Int.natCast_emod, Int.natCast_ediv, Int.natCast_pow]
  rfl

end Go.Proofs.Ytcplhalgjjhmdaa
