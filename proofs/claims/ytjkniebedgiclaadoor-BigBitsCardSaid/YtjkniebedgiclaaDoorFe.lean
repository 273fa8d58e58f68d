/- big: how many noughts a number of 64 bits has ahead; the quotient of two digits by one whose highest bit is 1 (math/bits.Div64). -/
import Derived.Test.YtjkniebedgiclaaDoorFa
import Derived.Test.YtjkniebedgiclaaDoorFb
import Derived.Deep.CutBlock
namespace Go.Proofs.YtjkniebedgiclaaDoor
open Go.RowKit Go.Shelf

set_option maxRecDepth 100000 in
set_option maxHeartbeats 1000000 in
theorem lz_any (x : Nat) (hx : x < 18446744073709551616) (h0 : x ≠ 0) (w : World) :
    Calls Tryd.prog 38 #[.int .u64 x] w fun e w' => (∃ u : Nat, e = .returned (.int .i64 u) ∧ u ≤ 63 ∧ 2 ^ 63 ≤ x * 2 ^ u ∧ x * 2 ^ u < 2 ^ 64) ∧ w = w' := by
  have HL := Lib.hid (lenx_any x hx)
  have H0 := Lib.hid h0
  clear hx h0
  go_enter Tryd.func38, Tryd.ntmps38
  go_wp2_with (first | (go_at_call 51; refine (HL.out _).mono ?_; rintro e w' ⟨⟨l, rfl, hl⟩, rfl⟩; have HX := Lib.hid hl; have hl64 := hl.1; clear hl) | fail)
  go_ret
  obtain ⟨h1, h2, h3⟩ := HX.out
  have h4 : 2 ^ l ≤ 2 * x := h3.elim (fun h => (H0.out h.1).elim) id
  have hl0 : 0 < l := by
    by_cases e : l = 0
    · subst e; have := H0.out; simp at h2; omega
    · omega
  have e1 : 2 ^ l * 2 ^ (64 - l) = 2 ^ 64 := by rw [← Nat.pow_add]; congr 1; omega
  have e2 : x * 2 ^ (64 - l) < 2 ^ l * 2 ^ (64 - l) := Nat.mul_lt_mul_of_pos_right h2 (Nat.pow_pos (by omega))
  have e3 : 2 ^ l * 2 ^ (64 - l) ≤ 2 * x * 2 ^ (64 - l) := Nat.mul_le_mul_right _ h4
  rw [Nat.mul_assoc] at e3
  have e4 : (2 : Nat) ^ 64 = 18446744073709551616 := by decide
  have e5 : (2 : Nat) ^ 63 = 9223372036854775808 := by decide
  rw [e1] at e2 e3
  rw [e4] at e2 e3
  rw [e4, e5]
  refine ⟨⟨64 - l, ?_, by omega, by omega, by omega⟩, rfl⟩
  exact congrArg (fun z => Ending.returned (.int .i64 z)) (by have := h1; omega)

theorem div_half (y n1 n0 u d q : Nat) (hy : y = n1 * 4294967296 + n0) (h1 : 2147483648 ≤ n1) (h0 : n0 < 4294967296) (hu : u < y) (hd : d < 4294967296) (hq : q = (u * 4294967296 + d) / y) :
    q ≤ u / n1 ∧ u / n1 ≤ 4294967297 ∧ q < 4294967296 := by
  subst hq
  refine ⟨?_, ?_, ?_⟩
  · have e : (u * 4294967296 + d) / y ≤ (u * 4294967296 + d) / (n1 * 4294967296) := Nat.div_le_div_left (by omega) (by omega)
    have e2 : (u * 4294967296 + d) / (n1 * 4294967296) = u / n1 := by
      rw [Nat.mul_comm n1, ← Nat.div_div_eq_div_mul]
      congr 1
      omega
    omega
  · have : u / n1 < 4294967298 := by
      rw [Nat.div_lt_iff_lt_mul (by omega)]
      omega
    omega
  · rw [Nat.div_lt_iff_lt_mul (by omega)]
    omega
theorem div_down (y n1 n0 u d q a r : Nat) (hy : y = n1 * 4294967296 + n0) (hu : u < y) (hd : d < 4294967296) (hq : q = (u * 4294967296 + d) / y) (hr : a * n1 + r = u) (h : 4294967296 ≤ a ∨ r * 4294967296 + d < a * n0) : q + 1 ≤ a := by
  have hy0 : 0 < y := by omega
  have hl : q < a := by
    subst hq
    rw [Nat.div_lt_iff_lt_mul hy0]
    rcases h with h | h
    · have h5 : 4294967296 * y ≤ a * y := Nat.mul_le_mul_right y h
      generalize a * y = z at h5 ⊢
      clear h hr
      omega
    · have e : a * y = a * n1 * 4294967296 + a * n0 := by rw [hy, Nat.mul_add, Nat.mul_assoc]
      rw [e, ← hr, Nat.add_mul, Nat.add_assoc]
      exact Nat.add_lt_add_left h _
  exact hl
/-- The trial digit is right. -/
theorem div_stop (y n1 n0 u d q a r : Nat) (hy : y = n1 * 4294967296 + n0) (h1 : 2147483648 ≤ n1) (hq : q = (u * 4294967296 + d) / y) (hr : a * n1 + r = u) (hqa : q ≤ a) (h : a * n0 ≤ r * 4294967296 + d) : a = q := by
  have hy0 : 0 < y := by omega
  have : a ≤ q := by
    subst hq
    rw [Nat.le_div_iff_mul_le hy0]
    have e : a * y = a * n1 * 4294967296 + a * n0 := by rw [hy, Nat.mul_add, Nat.mul_assoc]
    omega
  omega
theorem div_whole (y hi lo u1 u0 q t p : Nat) (hy : 0 < y) (h1 : lo / 4294967296 = u1) (h0 : lo % 4294967296 = u0) (hp : q * y = p) (ht : p + t = hi * 4294967296 + u1) :
    (hi * 18446744073709551616 + lo) / y = q * 4294967296 + (t * 4294967296 + u0) / y := by
  have e : hi * 18446744073709551616 + lo = (t * 4294967296 + u0) + y * (q * 4294967296) := by
    have e1 : y * (q * 4294967296) = p * 4294967296 := by rw [← Nat.mul_assoc, Nat.mul_comm y, hp]
    rw [e1]
    omega
  rw [e, Nat.add_mul_div_left _ _ hy, Nat.add_comm]
theorem div_break (n0 a r : Nat) (h0 : n0 < 4294967296) (ha : a ≤ 4294967296) (h : 4294967296 ≤ r) : a * n0 ≤ r * 4294967296 := by
  have h1 : a * n0 ≤ 4294967296 * n0 := Nat.mul_le_mul_right _ ha
  omega

set_option maxRecDepth 100000 in
set_option maxHeartbeats 4000000 in
theorem div64_any (hi lo y : Nat) (hy : 9223372036854775808 ≤ y) (hy2 : y < 18446744073709551616) (hh : hi < y) (hl : lo < 18446744073709551616) (h0 : 0 < hi) (w : World) :
    Calls Tryd.prog 66 #[.int .u64 hi, .int .u64 lo, .int .u64 y] w fun e w' => (∃ r : Int, e = .returned (.tuple #[.int .u64 (((hi * 18446744073709551616 + lo) / y : Nat) : Int), .int .u64 r])) ∧ w = w' := by
  have g1 : ((y : Int) == 0) = false := by simp; omega
  have g2 : ¬ (y : Int) ≤ (hi : Int) := by omega
  have g3 : ((hi : Int) == 0) = false := by simp; omega
  have HZ := Lib.hid (lz_any y hy2 (by omega))
  obtain ⟨n1, hn1⟩ : ∃ n1, y / 4294967296 = n1 := ⟨_, rfl⟩
  obtain ⟨n0, hn0⟩ : ∃ n0, y % 4294967296 = n0 := ⟨_, rfl⟩
  obtain ⟨u1, hu1⟩ : ∃ n1, lo / 4294967296 = n1 := ⟨_, rfl⟩
  obtain ⟨u0, hu0⟩ : ∃ n0, lo % 4294967296 = n0 := ⟨_, rfl⟩
  obtain ⟨qa, hqa⟩ : ∃ q, hi / n1 = q := ⟨_, rfl⟩
  obtain ⟨pa, hpa⟩ : ∃ q, qa * n1 = q := ⟨_, rfl⟩
  obtain ⟨ra, hra⟩ : ∃ q, hi % n1 = q := ⟨_, rfl⟩
  have hyy : y = n1 * 4294967296 + n0 := by omega
  have b1 : 2147483648 ≤ n1 := by omega
  have b0 : n0 < 4294967296 := by omega
  have c1 : u1 < 4294967296 := by omega
  have c0 : u0 < 4294967296 := by omega
  have hpr : pa + ra = hi := by rw [← hpa, ← hqa, ← hra, Nat.mul_comm]; exact Nat.div_add_mod hi n1
  have hrl : ra < n1 := by rw [← hra]; exact Nat.mod_lt _ (by omega)
  obtain ⟨D1, D2, D3⟩ := div_half y n1 n0 hi u1 _ hyy b1 b0 hh c1 rfl
  rw [hqa] at D1 D2
  obtain ⟨Q1, hQ1⟩ : ∃ Q, (hi * 4294967296 + u1) / y = Q := ⟨_, rfl⟩
  rw [hQ1] at D1 D3
  have f1 : IntKind.u64.wrap (y : Int) = y := wrapN _ hy2
  have f2 : (y : Int) / 4294967296 = (n1 : Nat) := by rw [divN, hn1]
  have f3 : bits .and .u64 (y : Int) 4294967295 = (n0 : Nat) := by rw [maskN _ hy2, hn0]
  have f4 : IntKind.u64.wrap (hi : Int) = hi := wrapN _ (by omega)
  have f5 : (lo : Int) / 18446744073709551616 = 0 := by omega
  have f6 : bits .or .u64 (hi : Int) 0 = hi := by
    have h := bits_or_u64_nat hi 0 (by omega) (by omega)
    rw [Nat.or_zero] at h
    exact h
  have f7 : IntKind.u64.wrap (lo : Int) = lo := wrapN _ hl
  have f8 : (lo : Int) / 4294967296 = (u1 : Nat) := by rw [divN, hu1]
  have f9 : bits .and .u64 (lo : Int) 4294967295 = (u0 : Nat) := by rw [maskN _ hl, hu0]
  have f10 : (hi : Int) / (n1 : Int) = (qa : Nat) := by rw [← hqa]; exact (Int.natCast_ediv hi n1).symm
  have f10' : (hi : Int).tdiv (n1 : Int) = (qa : Nat) := by rw [← f10]; exact Int.tdiv_eq_ediv_of_nonneg (by omega)
  have f11 : IntKind.u64.wrap (qa : Int) = qa := wrapN _ (by omega)
  have f12 : IntKind.u64.wrap ((qa : Int) * (n1 : Int)) = (pa : Nat) := by rw [mulN, hpa, wrapN _ (by omega)]
  have f13 : IntKind.u64.wrap ((hi : Int) - (pa : Int)) = (ra : Nat) := by rw [show (hi : Int) - (pa : Int) = ((ra : Nat) : Int) by omega, wrapN _ (by omega)]
  have f14 : ((n1 : Int) == 0) = false := by simp; omega
  have f15 : ¬ (n1 : Int) = 0 := by omega
  have HY := Lib.hid (And.intro hy (And.intro hy2 (And.intro hh hl)))
  have HN := Lib.hid (And.intro hyy (And.intro b1 (And.intro b0 (And.intro c1 (And.intro c0 (And.intro hu1 hu0))))))
  have HD := Lib.hid (And.intro D1 (And.intro D2 (And.intro D3 (And.intro hQ1 (And.intro hpr hrl)))))
  have HP := Lib.hid hpa
  have HU := Lib.hid hh
  have HN1 := Lib.hid (show n1 < 4294967296 by omega)
  clear hy hy2 hh hl h0 hn1 hn0 hu1 hu0 hqa hpa hra hyy b1 b0 c1 c0 hpr hrl D1 D2 D3 hQ1
  go_enter Tryd.func66, Tryd.ntmps66
  go_upto_block 0 with (first | (go_at_call 38; refine (HZ.out _).mono ?_; rintro e w' ⟨⟨u, rfl, hu, hv⟩, rfl⟩; obtain rfl : u = 0 := (by have := HY.out; rcases Nat.eq_zero_or_pos u with h | h; exact h; exfalso; have h2 : 2 ^ 1 ≤ 2 ^ u := Nat.pow_le_pow_right (by omega) h; have h3 := Nat.mul_le_mul_left y h2; omega); clear hu hv) | fail)
  go_cut [15, 16] from 67 to 85 (fun a r wx => a = .int .u64 Q1 ∧ (∃ R : Nat, r = .int .u64 R) ∧ wx = w)
  case first =>
    go_wp2_with fail
    go_loop [15, 16] (fun a r => ∃ A R : Nat, a = .int .u64 A ∧ r = .int .u64 R ∧ A * n1 + R = hi ∧ Q1 ≤ A ∧ A ≤ 4294967297 ∧ R < 4294967296) (fun a _ => (intOf a).toNat)
    case atStart => exact ⟨qa, ra, rfl, rfl, by rw [HP.out]; exact HD.out.2.2.2.2.1, HD.out.1, HD.out.2.1, by have := HD.out.2.2.2.2.2; have := HN1.out; omega⟩
    case round =>
      obtain ⟨A, R, rfl, rfl, h1, h2, h3, h4⟩ := hrel
      have hn1 := HN1.out
      have hd := HN.out.2.2.2.1
      by_cases hA : 4294967296 ≤ A
      · have gA : (4294967296 : Int) ≤ (A : Int) := by omega
        have hdn := div_down y n1 n0 hi u1 Q1 A R HN.out.1 HU.out HN.out.2.2.2.1 HD.out.2.2.2.1.symm h1 (.inl hA)
        have hr1 : (A - 1) * n1 + (R + n1) = hi := by rw [← h1, Nat.sub_mul, Nat.one_mul]; have : n1 ≤ A * n1 := Nat.le_mul_of_pos_left _ (by omega); omega
        have w1 : IntKind.u64.wrap ((A : Int) - 1) = ((A - 1 : Nat) : Int) := by rw [show (A : Int) - 1 = ((A - 1 : Nat) : Int) by omega, wrapN _ (by omega)]
        have w2 : IntKind.u64.wrap ((R : Int) + (n1 : Int)) = ((R + n1 : Nat) : Int) := by rw [addN, wrapN _ (by omega)]
        have w1' : (A : Int) - 1 = ((A - 1 : Nat) : Int) := by omega
        have w2' : (R : Int) + (n1 : Int) = ((R + n1 : Nat) : Int) := addN R n1
        have hQA : Q1 ≤ A - 1 := by omega
        have hA2 : A - 1 ≤ 4294967296 := by omega
        have hlo : A - 1 < A := by omega
        obtain ⟨A', hA'⟩ : ∃ x, A - 1 = x := ⟨_, rfl⟩
        obtain ⟨R', hR'⟩ : ∃ x, R + n1 = x := ⟨_, rfl⟩
        rw [hA'] at w1 w1' hQA hA2 hlo hr1
        rw [hR'] at w2 w2' hr1
        have w3 : IntKind.u64.wrap (A' : Int) = A' := wrapN _ (by omega)
        have w4 : IntKind.u64.wrap (R' : Int) = R' := wrapN _ (by omega)
        have HRR := Lib.hid (And.intro hr1 (And.intro hQA (And.intro hA2 hlo)))
        clear hdn hA' hR' hr1 hQA hA2 hlo h1 h2 h3
        by_cases hbr : 4294967296 ≤ R'
        · have gR : (4294967296 : Int) ≤ (R' : Int) := by omega
          have hE := Lib.hid (div_stop y n1 n0 hi u1 Q1 A' R' HN.out.1 HN.out.2.1 HD.out.2.2.2.1.symm HRR.out.1 HRR.out.2.1 (Nat.le_trans (div_break n0 A' R' HN.out.2.2.1 HRR.out.2.2.1 hbr) (Nat.le_add_right _ _)))
          clear hbr
          go_wp2_with fail
          go_meet
          case rel => exact ⟨by rw [hE.out], ⟨R', rfl⟩, rfl⟩
        · have gR : ¬ (4294967296 : Int) ≤ (R' : Int) := by omega
          go_wp2_with fail
          go_round
          case rel => exact ⟨A', R', rfl, rfl, HRR.out.1, HRR.out.2.1, by have := HRR.out.2.2.1; omega, by omega⟩
          case measure => have := HRR.out.2.2.2; simp [intOf]; omega
      · have gA : ¬ (4294967296 : Int) ≤ (A : Int) := by omega
        obtain ⟨P, hP⟩ : ∃ x, A * n0 = x := ⟨_, rfl⟩
        have hPl : P < 18446744073709551616 := by
          have h0 := HN.out.2.2.1
          have : A * n0 ≤ 4294967295 * 4294967295 := Nat.mul_le_mul (by omega) (by omega)
          omega
        have k1 : IntKind.u64.wrap ((A : Int) * (n0 : Int)) = (P : Nat) := by rw [mulN, hP, wrapN _ hPl]
        have k2 : IntKind.u64.wrap (4294967296 * (R : Int)) = ((4294967296 * R : Nat) : Int) := by rw [show 4294967296 * (R : Int) = ((4294967296 * R : Nat) : Int) by omega, wrapN _ (by omega)]
        have k3 : IntKind.u64.wrap (((4294967296 * R : Nat) : Int) + (u1 : Int)) = ((4294967296 * R + u1 : Nat) : Int) := by rw [addN, wrapN _ (by omega)]
        have k4 : 4294967296 * R + u1 = R * 4294967296 + u1 := by omega
        obtain ⟨S, hS⟩ : ∃ x, R * 4294967296 + u1 = x := ⟨_, rfl⟩
        obtain ⟨S0, hS0⟩ : ∃ x, 4294967296 * R = x := ⟨_, rfl⟩
        rw [hS0] at k2 k3 k4
        have HS0 := Lib.hid (k4.trans hS)
        rw [k4, hS] at k3
        by_cases hB : S < P
        · have gB : (S : Int) < (P : Int) := by omega
          have gB2 : decide ((S : Int) < (P : Int)) = true := by simpa using gB
          have hB' : R * 4294967296 + u1 < A * n0 := by rw [hP, hS]; exact hB
          clear hP hS hS0 k4 hB
          have hdn := div_down y n1 n0 hi u1 Q1 A R HN.out.1 HU.out HN.out.2.2.2.1 HD.out.2.2.2.1.symm h1 (.inr hB')
          have hr1 : (A - 1) * n1 + (R + n1) = hi := by rw [← h1, Nat.sub_mul, Nat.one_mul]; have : n1 ≤ A * n1 := Nat.le_mul_of_pos_left _ (by omega); omega
          have w1 : IntKind.u64.wrap ((A : Int) - 1) = ((A - 1 : Nat) : Int) := by rw [show (A : Int) - 1 = ((A - 1 : Nat) : Int) by omega, wrapN _ (by omega)]
          have w2 : IntKind.u64.wrap ((R : Int) + (n1 : Int)) = ((R + n1 : Nat) : Int) := by rw [addN, wrapN _ (by omega)]
          have w1' : (A : Int) - 1 = ((A - 1 : Nat) : Int) := by omega
          have w2' : (R : Int) + (n1 : Int) = ((R + n1 : Nat) : Int) := addN R n1
          have hQA : Q1 ≤ A - 1 := by omega
          have hA2 : A - 1 ≤ 4294967296 := by omega
          have hlo : A - 1 < A := by omega
          obtain ⟨A', hA'⟩ : ∃ x, A - 1 = x := ⟨_, rfl⟩
          obtain ⟨R', hR'⟩ : ∃ x, R + n1 = x := ⟨_, rfl⟩
          rw [hA'] at w1 w1' hQA hA2 hlo hr1
          rw [hR'] at w2 w2' hr1
          have w3 : IntKind.u64.wrap (A' : Int) = A' := wrapN _ (by omega)
          have w4 : IntKind.u64.wrap (R' : Int) = R' := wrapN _ (by omega)
          have HRR := Lib.hid (And.intro hr1 (And.intro hQA (And.intro hA2 hlo)))
          clear hdn hA' hR' hr1 hQA hA2 hlo h1 h2 h3
          by_cases hbr : 4294967296 ≤ R'
          · have gR : (4294967296 : Int) ≤ (R' : Int) := by omega
            have hE := Lib.hid (div_stop y n1 n0 hi u1 Q1 A' R' HN.out.1 HN.out.2.1 HD.out.2.2.2.1.symm HRR.out.1 HRR.out.2.1 (Nat.le_trans (div_break n0 A' R' HN.out.2.2.1 HRR.out.2.2.1 hbr) (Nat.le_add_right _ _)))
            clear hbr
            go_wp2_with fail
            go_meet
            case rel => exact ⟨by rw [hE.out], ⟨R', rfl⟩, rfl⟩
          · have gR : ¬ (4294967296 : Int) ≤ (R' : Int) := by omega
            go_wp2_with fail
            go_round
            case rel => exact ⟨A', R', rfl, rfl, HRR.out.1, HRR.out.2.1, by have := HRR.out.2.2.1; omega, by omega⟩
            case measure => have := HRR.out.2.2.2; simp [intOf]; omega
        · have gB : ¬ (S : Int) < (P : Int) := by omega
          have gB2 : decide ((S : Int) < (P : Int)) = false := by simpa using gB
          have hE := Lib.hid (div_stop y n1 n0 hi u1 Q1 A R HN.out.1 HN.out.2.1 HD.out.2.2.2.1.symm h1 h2 (by rw [hP, hS]; omega))
          clear hP hS hS0 k4 hB h1 h2 h3
          go_wp2_with fail
          go_meet
          case rel => exact ⟨by rw [hE.out], ⟨R, rfl⟩, rfl⟩
  case rest =>
    obtain ⟨rfl, ⟨R1, rfl⟩, rfl⟩ := hcut
    obtain ⟨T1, hT1⟩ : ∃ x, (hi * 4294967296 + u1) % y = x := ⟨_, rfl⟩
    obtain ⟨P1, hP1⟩ : ∃ x, Q1 * y = x := ⟨_, rfl⟩
    have HY := HY
    have hyy := HN.out.1
    have hTy : T1 < y := by rw [← hT1]; exact Nat.mod_lt _ (by have := HY.out.1; omega)
    have hPT : P1 + T1 = hi * 4294967296 + u1 := by
      have h := Nat.div_add_mod (hi * 4294967296 + u1) y
      rw [HD.out.2.2.2.1, hT1, Nat.mul_comm y, hP1] at h
      exact h
    have hy2 := HY.out.2.1
    have g20 : IntKind.u64.wrap ((hi : Int) * 4294967296) = ((hi * 4294967296 % 18446744073709551616 : Nat) : Int) := by rw [show (hi : Int) * 4294967296 = ((hi * 4294967296 : Nat) : Int) by omega, wrapM]
    have g21 : IntKind.u64.wrap ((Q1 : Int) * (y : Int)) = ((P1 % 18446744073709551616 : Nat) : Int) := by rw [mulN, hP1, wrapM]
    obtain ⟨x1, hx1⟩ : ∃ x, hi * 4294967296 % 18446744073709551616 = x := ⟨_, rfl⟩
    obtain ⟨x2, hx2⟩ : ∃ x, P1 % 18446744073709551616 = x := ⟨_, rfl⟩
    have g22 : IntKind.u64.wrap ((x1 : Int) + (u1 : Int)) = (((x1 + u1) % 18446744073709551616 : Nat) : Int) := by rw [addN, wrapM]
    obtain ⟨x3, hx3⟩ : ∃ x, (x1 + u1) % 18446744073709551616 = x := ⟨_, rfl⟩
    have g23 : IntKind.u64.wrap ((x3 : Int) - (x2 : Int)) = (T1 : Nat) := by
      rw [IntKind.wrap_u64]
      omega
    rw [hx1] at g20
    rw [hx2] at g21
    rw [hx3] at g22
    obtain ⟨qb, hqb⟩ : ∃ q, T1 / n1 = q := ⟨_, rfl⟩
    obtain ⟨pb, hpb⟩ : ∃ q, qb * n1 = q := ⟨_, rfl⟩
    obtain ⟨rb, hrb⟩ : ∃ q, T1 % n1 = q := ⟨_, rfl⟩
    have b1 := HN.out.2.1
    have hprb : pb + rb = T1 := by rw [← hpb, ← hqb, ← hrb, Nat.mul_comm]; exact Nat.div_add_mod T1 n1
    have hrbl : rb < n1 := by rw [← hrb]; exact Nat.mod_lt _ (by omega)
    obtain ⟨E1, E2, E3⟩ := div_half y n1 n0 T1 u0 _ hyy b1 HN.out.2.2.1 hTy HN.out.2.2.2.2.1 rfl
    rw [hqb] at E1 E2
    obtain ⟨Q0, hQ0⟩ : ∃ Q, (T1 * 4294967296 + u0) / y = Q := ⟨_, rfl⟩
    rw [hQ0] at E1 E3
    have g24 : (T1 : Int) / (n1 : Int) = (qb : Nat) := by rw [← hqb]; exact (Int.natCast_ediv T1 n1).symm
    have g25 : IntKind.u64.wrap (qb : Int) = qb := wrapN _ (by omega)
    have g26 : IntKind.u64.wrap ((qb : Int) * (n1 : Int)) = (pb : Nat) := by rw [mulN, hpb, wrapN _ (by omega)]
    have g27 : IntKind.u64.wrap ((T1 : Int) - (pb : Int)) = (rb : Nat) := by rw [show (T1 : Int) - (pb : Int) = ((rb : Nat) : Int) by omega, wrapN _ (by omega)]
    have g28 : IntKind.u64.wrap (T1 : Int) = T1 := wrapN _ (by omega)
    have HD2 := Lib.hid (And.intro E1 (And.intro E2 (And.intro E3 (And.intro hQ0 (And.intro hprb hrbl)))))
    have HU2 := Lib.hid hTy
    have HT := Lib.hid (div_whole y hi lo u1 u0 Q1 T1 P1 (by have := HY.out.1; omega) HN.out.2.2.2.2.2.1 HN.out.2.2.2.2.2.2 hP1 hPT)
    have HQ1 := Lib.hid HD.out.2.2.1
    clear HU
    have HU := HU2
    have HP1 := HP
    clear HP
    have HP := Lib.hid hpb
    clear hT1 hP1 hPT hy2 hx1 hx2 hx3 hqb hpb hrb b1 hprb hrbl E1 E2 E3 hQ0 hTy hyy f10 f10' f11 f12 f13
    go_upto_block 2 with fail
    go_cut [18, 16] from 102 to 120 (fun a r wx => a = .int .u64 Q0 ∧ (∃ R : Nat, r = .int .u64 R) ∧ wx = wc)
    case first =>
      go_wp2_with fail
      go_loop [16, 18] (fun r a => ∃ A R : Nat, a = .int .u64 A ∧ r = .int .u64 R ∧ A * n1 + R = T1 ∧ Q0 ≤ A ∧ A ≤ 4294967297 ∧ R < 4294967296) (fun _ a => (intOf a).toNat)
      case atStart => exact ⟨qb, rb, rfl, rfl, by rw [HP.out]; exact HD2.out.2.2.2.2.1, HD2.out.1, HD2.out.2.1, by have := HD2.out.2.2.2.2.2; have := HN1.out; omega⟩
      case round =>
        obtain ⟨A, R, rfl, rfl, h1, h2, h3, h4⟩ := hrel
        have hn1 := HN1.out
        have hd := HN.out.2.2.2.2.1
        by_cases hA : 4294967296 ≤ A
        · have gA : (4294967296 : Int) ≤ (A : Int) := by omega
          have hdn := div_down y n1 n0 T1 u0 Q0 A R HN.out.1 HU.out HN.out.2.2.2.2.1 HD2.out.2.2.2.1.symm h1 (.inl hA)
          have hr1 : (A - 1) * n1 + (R + n1) = T1 := by rw [← h1, Nat.sub_mul, Nat.one_mul]; have : n1 ≤ A * n1 := Nat.le_mul_of_pos_left _ (by omega); omega
          have w1 : IntKind.u64.wrap ((A : Int) - 1) = ((A - 1 : Nat) : Int) := by rw [show (A : Int) - 1 = ((A - 1 : Nat) : Int) by omega, wrapN _ (by omega)]
          have w2 : IntKind.u64.wrap ((R : Int) + (n1 : Int)) = ((R + n1 : Nat) : Int) := by rw [addN, wrapN _ (by omega)]
          have w1' : (A : Int) - 1 = ((A - 1 : Nat) : Int) := by omega
          have w2' : (R : Int) + (n1 : Int) = ((R + n1 : Nat) : Int) := addN R n1
          have hQA : Q0 ≤ A - 1 := by omega
          have hA2 : A - 1 ≤ 4294967296 := by omega
          have hlo : A - 1 < A := by omega
          obtain ⟨A', hA'⟩ : ∃ x, A - 1 = x := ⟨_, rfl⟩
          obtain ⟨R', hR'⟩ : ∃ x, R + n1 = x := ⟨_, rfl⟩
          rw [hA'] at w1 w1' hQA hA2 hlo hr1
          rw [hR'] at w2 w2' hr1
          have w3 : IntKind.u64.wrap (A' : Int) = A' := wrapN _ (by omega)
          have w4 : IntKind.u64.wrap (R' : Int) = R' := wrapN _ (by omega)
          have HRR := Lib.hid (And.intro hr1 (And.intro hQA (And.intro hA2 hlo)))
          clear hdn hA' hR' hr1 hQA hA2 hlo h1 h2 h3
          by_cases hbr : 4294967296 ≤ R'
          · have gR : (4294967296 : Int) ≤ (R' : Int) := by omega
            have hE := Lib.hid (div_stop y n1 n0 T1 u0 Q0 A' R' HN.out.1 HN.out.2.1 HD2.out.2.2.2.1.symm HRR.out.1 HRR.out.2.1 (Nat.le_trans (div_break n0 A' R' HN.out.2.2.1 HRR.out.2.2.1 hbr) (Nat.le_add_right _ _)))
            clear hbr
            go_wp2_with fail
            go_meet
            case rel => exact ⟨by rw [hE.out], ⟨R', rfl⟩, rfl⟩
          · have gR : ¬ (4294967296 : Int) ≤ (R' : Int) := by omega
            go_wp2_with fail
            go_round
            case rel => exact ⟨A', R', rfl, rfl, HRR.out.1, HRR.out.2.1, by have := HRR.out.2.2.1; omega, by omega⟩
            case measure => have := HRR.out.2.2.2; simp [intOf]; omega
        · have gA : ¬ (4294967296 : Int) ≤ (A : Int) := by omega
          obtain ⟨P, hP⟩ : ∃ x, A * n0 = x := ⟨_, rfl⟩
          have hPl : P < 18446744073709551616 := by
            have h0 := HN.out.2.2.1
            have : A * n0 ≤ 4294967295 * 4294967295 := Nat.mul_le_mul (by omega) (by omega)
            omega
          have k1 : IntKind.u64.wrap ((A : Int) * (n0 : Int)) = (P : Nat) := by rw [mulN, hP, wrapN _ hPl]
          have k2 : IntKind.u64.wrap (4294967296 * (R : Int)) = ((4294967296 * R : Nat) : Int) := by rw [show 4294967296 * (R : Int) = ((4294967296 * R : Nat) : Int) by omega, wrapN _ (by omega)]
          have k3 : IntKind.u64.wrap (((4294967296 * R : Nat) : Int) + (u0 : Int)) = ((4294967296 * R + u0 : Nat) : Int) := by rw [addN, wrapN _ (by omega)]
          have k4 : 4294967296 * R + u0 = R * 4294967296 + u0 := by omega
          obtain ⟨S, hS⟩ : ∃ x, R * 4294967296 + u0 = x := ⟨_, rfl⟩
          obtain ⟨S0, hS0⟩ : ∃ x, 4294967296 * R = x := ⟨_, rfl⟩
          rw [hS0] at k2 k3 k4
          have HS0 := Lib.hid (k4.trans hS)
          rw [k4, hS] at k3
          by_cases hB : S < P
          · have gB : (S : Int) < (P : Int) := by omega
            have gB2 : decide ((S : Int) < (P : Int)) = true := by simpa using gB
            have hB' : R * 4294967296 + u0 < A * n0 := by rw [hP, hS]; exact hB
            clear hP hS hS0 k4 hB
            have hdn := div_down y n1 n0 T1 u0 Q0 A R HN.out.1 HU.out HN.out.2.2.2.2.1 HD2.out.2.2.2.1.symm h1 (.inr hB')
            have hr1 : (A - 1) * n1 + (R + n1) = T1 := by rw [← h1, Nat.sub_mul, Nat.one_mul]; have : n1 ≤ A * n1 := Nat.le_mul_of_pos_left _ (by omega); omega
            have w1 : IntKind.u64.wrap ((A : Int) - 1) = ((A - 1 : Nat) : Int) := by rw [show (A : Int) - 1 = ((A - 1 : Nat) : Int) by omega, wrapN _ (by omega)]
            have w2 : IntKind.u64.wrap ((R : Int) + (n1 : Int)) = ((R + n1 : Nat) : Int) := by rw [addN, wrapN _ (by omega)]
            have w1' : (A : Int) - 1 = ((A - 1 : Nat) : Int) := by omega
            have w2' : (R : Int) + (n1 : Int) = ((R + n1 : Nat) : Int) := addN R n1
            have hQA : Q0 ≤ A - 1 := by omega
            have hA2 : A - 1 ≤ 4294967296 := by omega
            have hlo : A - 1 < A := by omega
            obtain ⟨A', hA'⟩ : ∃ x, A - 1 = x := ⟨_, rfl⟩
            obtain ⟨R', hR'⟩ : ∃ x, R + n1 = x := ⟨_, rfl⟩
            rw [hA'] at w1 w1' hQA hA2 hlo hr1
            rw [hR'] at w2 w2' hr1
            have w3 : IntKind.u64.wrap (A' : Int) = A' := wrapN _ (by omega)
            have w4 : IntKind.u64.wrap (R' : Int) = R' := wrapN _ (by omega)
            have HRR := Lib.hid (And.intro hr1 (And.intro hQA (And.intro hA2 hlo)))
            clear hdn hA' hR' hr1 hQA hA2 hlo h1 h2 h3
            by_cases hbr : 4294967296 ≤ R'
            · have gR : (4294967296 : Int) ≤ (R' : Int) := by omega
              have hE := Lib.hid (div_stop y n1 n0 T1 u0 Q0 A' R' HN.out.1 HN.out.2.1 HD2.out.2.2.2.1.symm HRR.out.1 HRR.out.2.1 (Nat.le_trans (div_break n0 A' R' HN.out.2.2.1 HRR.out.2.2.1 hbr) (Nat.le_add_right _ _)))
              clear hbr
              go_wp2_with fail
              go_meet
              case rel => exact ⟨by rw [hE.out], ⟨R', rfl⟩, rfl⟩
            · have gR : ¬ (4294967296 : Int) ≤ (R' : Int) := by omega
              go_wp2_with fail
              go_round
              case rel => exact ⟨A', R', rfl, rfl, HRR.out.1, HRR.out.2.1, by have := HRR.out.2.2.1; omega, by omega⟩
              case measure => have := HRR.out.2.2.2; simp [intOf]; omega
          · have gB : ¬ (S : Int) < (P : Int) := by omega
            have gB2 : decide ((S : Int) < (P : Int)) = false := by simpa using gB
            have hE := Lib.hid (div_stop y n1 n0 T1 u0 Q0 A R HN.out.1 HN.out.2.1 HD2.out.2.2.2.1.symm h1 h2 (by rw [hP, hS]; omega))
            clear hP hS hS0 k4 hB h1 h2 h3
            go_wp2_with fail
            go_meet
            case rel => exact ⟨by rw [hE.out], ⟨R, rfl⟩, rfl⟩
    case rest =>
      obtain ⟨rfl, ⟨R2, rfl⟩, rfl⟩ := hcut
      go_wp2_with fail
      go_ret2
      have q1 := HQ1.out
      have q0 := HD2.out.2.2.1
      have qw : IntKind.u64.wrap (IntKind.u64.wrap ((Q1 : Int) * 4294967296) + (Q0 : Int)) = (((hi * 18446744073709551616 + lo) / y : Nat) : Int) := by
        rw [HT.out, HD2.out.2.2.2.1, show (Q1 : Int) * 4294967296 = ((Q1 * 4294967296 : Nat) : Int) by omega, wrapN _ (by omega), addN, wrapN _ (by omega)]
      refine And.intro (Exists.intro ?rr ?hh) rfl
      case hh => rw [← qw]; rfl
end Go.Proofs.YtjkniebedgiclaaDoor
