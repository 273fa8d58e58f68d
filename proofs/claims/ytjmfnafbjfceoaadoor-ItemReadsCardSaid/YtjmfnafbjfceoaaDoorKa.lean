/- digest: rounds of a state, in plain numbers: each part of a round can be undone. No program. -/
import Derived.Test.YtjmfnafbjfceoaaDoorPa
import Derived.Laws.Bits64
import Derived.Laws.Bits64b
namespace Go.Proofs.YtjmfnafbjfceoaaDoor
abbrev Ln := BitVec 64
def rot (x : Ln) (n : Nat) : Ln := x.rotateLeft n
def par (f : Nat → Ln) (x : Nat) : Ln := f x ^^^ f (x + 5) ^^^ f (x + 10) ^^^ f (x + 15) ^^^ f (x + 20)
def theta (f : Nat → Ln) (i : Nat) : Ln := f i ^^^ (par f ((i + 4) % 5) ^^^ rot (par f ((i + 1) % 5)) 1)
def rpS : Nat → Nat × Nat
  | 10 => (1, 1) | 7 => (10, 3) | 11 => (7, 6) | 17 => (11, 10) | 18 => (17, 15) | 3 => (18, 21) | 5 => (3, 28) | 16 => (5, 36) | 8 => (16, 45) | 21 => (8, 55)
  | 24 => (21, 2) | 4 => (24, 14) | 15 => (4, 27) | 23 => (15, 41) | 19 => (23, 56) | 13 => (19, 8) | 12 => (13, 25) | 2 => (12, 43) | 20 => (2, 62) | 14 => (20, 18)
  | 22 => (14, 39) | 9 => (22, 61) | 6 => (9, 20) | 1 => (6, 44) | _ => (0, 0)
def rhopi (f : Nat → Ln) (j : Nat) : Ln := rot (f (rpS j).1) (rpS j).2
def chi (f : Nat → Ln) (i : Nat) : Ln := f i ^^^ (~~~ f (i / 5 * 5 + (i + 1) % 5) &&& f (i / 5 * 5 + (i + 2) % 5))
def EqOn (f g : Nat → Ln) : Prop := ∀ i, i < 25 → f i = g i

theorem rot_xor (x y : Ln) (n : Nat) (hn : n < 64) : rot (x ^^^ y) n = rot x n ^^^ rot y n := by
  unfold rot
  ext i hi
  simp only [BitVec.getElem_xor, BitVec.getElem_rotateLeft, Nat.mod_eq_of_lt hn]
  split <;> simp
theorem rot_rot (x : Ln) (m n : Nat) (hm : m < 64) (hn : n < 64) : rot (rot x m) n = rot x ((m + n) % 64) := by
  unfold rot
  ext i hi
  have h64 : (m + n) % 64 < 64 := Nat.mod_lt _ (by omega)
  simp only [BitVec.getElem_rotateLeft, Nat.mod_eq_of_lt hn, Nat.mod_eq_of_lt hm, Nat.mod_eq_of_lt h64]
  repeat' split
  all_goals first | (congr 1; omega) | omega
theorem rot_zero (x : Ln) : rot x 0 = x := by
  unfold rot; ext i hi; simp [BitVec.getElem_rotateLeft]
theorem rot_inj {x y : Ln} {n : Nat} (hn : n < 64) (h : rot x n = rot y n) : x = y := by
  have h1 : rot (rot x n) ((64 - n) % 64) = rot (rot y n) ((64 - n) % 64) := congrArg (fun z => rot z ((64 - n) % 64)) h
  rw [rot_rot _ _ _ hn (Nat.mod_lt _ (by omega)), rot_rot _ _ _ hn (Nat.mod_lt _ (by omega))] at h1
  have e : (n + (64 - n) % 64) % 64 = 0 := by omega
  rwa [e, rot_zero, rot_zero] at h1
theorem xor_cancel {x y z : Ln} (h : x ^^^ y = x ^^^ z) : y = z := by
  have h1 := congrArg (fun t => x ^^^ t) h
  simp only [← BitVec.xor_assoc, BitVec.xor_self, BitVec.zero_xor] at h1
  exact h1
/-- The columns of a state that theta leaves at nought are nought. -/
theorem par_step (P : Nat → Ln) (k s : Nat) (hk : k < 64)
    (h : ∀ x, x < 5 → P x = P ((x + (5 - s % 5)) % 5) ^^^ rot (P ((x + s) % 5)) k) :
    ∀ x, x < 5 → P x = P ((x + (5 - (2 * s) % 5)) % 5) ^^^ rot (P ((x + 2 * s) % 5)) (2 * k % 64) := by
  intro x hx
  have h0 := h x hx
  have h1 := h ((x + (5 - s % 5)) % 5) (Nat.mod_lt _ (by omega))
  have h2 := h ((x + s) % 5) (Nat.mod_lt _ (by omega))
  have e1 : ((x + (5 - s % 5)) % 5 + (5 - s % 5)) % 5 = (x + (5 - (2 * s) % 5)) % 5 := by omega
  have e2 : ((x + (5 - s % 5)) % 5 + s) % 5 = x := by omega
  have e3 : ((x + s) % 5 + (5 - s % 5)) % 5 = x := by omega
  have e4 : ((x + s) % 5 + s) % 5 = (x + 2 * s) % 5 := by omega
  rw [e1, e2] at h1
  rw [e3, e4] at h2
  rw [h1, h2, rot_xor _ _ _ hk, rot_rot _ _ _ hk hk] at h0
  have e5 : (k + k) % 64 = 2 * k % 64 := by omega
  rw [e5] at h0
  rw [h0]
  ext i hi
  simp only [BitVec.getElem_xor]
  cases (P ((x + (5 - (2 * s) % 5)) % 5))[i] <;> cases (rot (P x) k)[i] <;> simp
theorem par_nought (P : Nat → Ln) (h : ∀ x, x < 5 → P x = P ((x + 4) % 5) ^^^ rot (P ((x + 1) % 5)) 1) : ∀ x, x < 5 → P x = 0#64 := by
  have h1 := par_step P 1 1 (by omega) h
  have h2 := par_step P 2 2 (by omega) h1
  have h3 := par_step P 4 4 (by omega) h2
  have h4 := par_step P 8 8 (by omega) h3
  have h5 := par_step P 16 16 (by omega) h4
  have h6 := par_step P 32 32 (by omega) h5
  have g0 := h6 0 (by omega); have g1 := h6 1 (by omega); have g2 := h6 2 (by omega); have g3 := h6 3 (by omega); have g4 := h6 4 (by omega)
  simp only [Nat.reduceMul, Nat.reduceMod, Nat.reduceAdd, Nat.reduceSub, rot_zero] at g0 g1 g2 g3 g4
  have key : ∀ a b c d e : Bool, a = xor b e → b = xor c a → c = xor d b → d = xor e c → e = xor a d → a = false ∧ b = false ∧ c = false ∧ d = false ∧ e = false := by decide
  have bitw : ∀ i (hi : i < 64), (P 0)[i] = false ∧ (P 1)[i] = false ∧ (P 2)[i] = false ∧ (P 3)[i] = false ∧ (P 4)[i] = false := fun i hi => by
    have q0 := congrArg (fun z : Ln => z[i]) g0; have q1 := congrArg (fun z : Ln => z[i]) g1; have q2 := congrArg (fun z : Ln => z[i]) g2
    have q3 := congrArg (fun z : Ln => z[i]) g3; have q4 := congrArg (fun z : Ln => z[i]) g4
    simp only [BitVec.getElem_xor] at q0 q1 q2 q3 q4
    revert q0 q1 q2 q3 q4
    generalize (P 0)[i] = a; generalize (P 1)[i] = b; generalize (P 2)[i] = c; generalize (P 3)[i] = d; generalize (P 4)[i] = e
    revert a b c d e
    decide
  intro x hx
  ext i hi
  have hb := bitw i hi
  match x, hx with
  | 0, _ => simp [hb.1]
  | 1, _ => simp [hb.2.1]
  | 2, _ => simp [hb.2.2.1]
  | 3, _ => simp [hb.2.2.2.1]
  | 4, _ => simp [hb.2.2.2.2]
theorem theta_inj {f g : Nat → Ln} (h : EqOn (theta f) (theta g)) : EqOn f g := by
  let e : Nat → Ln := fun i => f i ^^^ g i
  let P : Nat → Ln := fun x => par f x ^^^ par g x
  have hP : ∀ x, P x = e x ^^^ e (x + 5) ^^^ e (x + 10) ^^^ e (x + 15) ^^^ e (x + 20) := fun x => by
    show par f x ^^^ par g x = _
    unfold par
    ext i hi
    simp only [BitVec.getElem_xor, e]
    generalize (f x)[i] = a0; generalize (f (x + 5))[i] = a1; generalize (f (x + 10))[i] = a2; generalize (f (x + 15))[i] = a3; generalize (f (x + 20))[i] = a4
    generalize (g x)[i] = b0; generalize (g (x + 5))[i] = b1; generalize (g (x + 10))[i] = b2; generalize (g (x + 15))[i] = b3; generalize (g (x + 20))[i] = b4
    revert a0 a1 a2 a3 a4 b0 b1 b2 b3 b4
    decide
  have he : ∀ i, i < 25 → e i = P ((i + 4) % 5) ^^^ rot (P ((i + 1) % 5)) 1 := fun i hi => by
    have h1 := h i hi
    unfold theta at h1
    show f i ^^^ g i = (par f ((i + 4) % 5) ^^^ par g ((i + 4) % 5)) ^^^ rot (par f ((i + 1) % 5) ^^^ par g ((i + 1) % 5)) 1
    rw [rot_xor _ _ _ (by omega)]
    ext j hj
    have h2 := congrArg (fun z : Ln => z[j]) h1
    simp only [BitVec.getElem_xor] at h2 ⊢
    revert h2
    generalize (f i)[j] = a; generalize (g i)[j] = b; generalize (par f ((i + 4) % 5))[j] = c; generalize (par g ((i + 4) % 5))[j] = d
    generalize (rot (par f ((i + 1) % 5)) 1)[j] = u; generalize (rot (par g ((i + 1) % 5)) 1)[j] = v
    revert a b c d u v
    decide
  have hcol : ∀ x, x < 5 → P x = P ((x + 4) % 5) ^^^ rot (P ((x + 1) % 5)) 1 := fun x hx => by
    have e0 := he x (by omega); have e1 := he (x + 5) (by omega); have e2 := he (x + 10) (by omega); have e3 := he (x + 15) (by omega); have e4 := he (x + 20) (by omega)
    rw [show (x + 5 + 4) % 5 = (x + 4) % 5 by omega, show (x + 5 + 1) % 5 = (x + 1) % 5 by omega] at e1
    rw [show (x + 10 + 4) % 5 = (x + 4) % 5 by omega, show (x + 10 + 1) % 5 = (x + 1) % 5 by omega] at e2
    rw [show (x + 15 + 4) % 5 = (x + 4) % 5 by omega, show (x + 15 + 1) % 5 = (x + 1) % 5 by omega] at e3
    rw [show (x + 20 + 4) % 5 = (x + 4) % 5 by omega, show (x + 20 + 1) % 5 = (x + 1) % 5 by omega] at e4
    have := hP x
    rw [e0, e1, e2, e3, e4] at this
    rw [this]
    generalize P ((x + 4) % 5) ^^^ rot (P ((x + 1) % 5)) 1 = z
    simp
  have hz := par_nought P hcol
  intro i hi
  have h1 := he i hi
  rw [hz _ (Nat.mod_lt _ (by omega)), hz _ (Nat.mod_lt _ (by omega))] at h1
  have h2 : e i = 0#64 := by rw [h1]; decide
  have h3 : f i ^^^ g i = 0#64 := h2
  ext j hj
  have h4 := congrArg (fun z : Ln => z[j]) h3
  simp only [BitVec.getElem_xor] at h4
  revert h4
  cases (f i)[j] <;> cases (g i)[j] <;> simp
theorem rpS_ok : ∀ i, i < 25 → ∃ j, j < 25 ∧ (rpS j).1 = i ∧ (rpS j).2 < 64 := by decide
theorem rhopi_inj {f g : Nat → Ln} (h : EqOn (rhopi f) (rhopi g)) : EqOn f g := by
  intro i hi
  obtain ⟨j, hj, e, h64⟩ := rpS_ok i hi
  have h1 := h j hj
  unfold rhopi at h1
  rw [e] at h1
  exact rot_inj h64 h1
theorem chi_bool : ∀ a b c d e a' b' c' d' e' : Bool, xor a (!b && c) = xor a' (!b' && c') → xor b (!c && d) = xor b' (!c' && d') → xor c (!d && e) = xor c' (!d' && e') →
    xor d (!e && a) = xor d' (!e' && a') → xor e (!a && b) = xor e' (!a' && b') → a = a' ∧ b = b' ∧ c = c' ∧ d = d' ∧ e = e' := by decide
theorem chi_inj {f g : Nat → Ln} (h : EqOn (chi f) (chi g)) : EqOn f g := by
  have row : ∀ y, y < 5 → ∀ i (hi : i < 64), (f (5 * y))[i] = (g (5 * y))[i] ∧ (f (5 * y + 1))[i] = (g (5 * y + 1))[i] ∧ (f (5 * y + 2))[i] = (g (5 * y + 2))[i] ∧ (f (5 * y + 3))[i] = (g (5 * y + 3))[i] ∧ (f (5 * y + 4))[i] = (g (5 * y + 4))[i] := fun y hy i hi => by
    have cell : ∀ k, k < 5 → xor (f (5 * y + k))[i] ((!(f (5 * y + (k + 1) % 5))[i]) && (f (5 * y + (k + 2) % 5))[i]) = xor (g (5 * y + k))[i] ((!(g (5 * y + (k + 1) % 5))[i]) && (g (5 * y + (k + 2) % 5))[i]) := fun k hk => by
      have h1 := h (5 * y + k) (by omega)
      unfold chi at h1
      rw [show (5 * y + k) / 5 * 5 = 5 * y by omega, show (5 * y + k + 1) % 5 = (k + 1) % 5 by omega, show (5 * y + k + 2) % 5 = (k + 2) % 5 by omega] at h1
      have h2 := congrArg (fun z : Ln => z[i]) h1
      simpa only [BitVec.getElem_xor, BitVec.getElem_and, BitVec.getElem_not] using h2
    exact chi_bool _ _ _ _ _ _ _ _ _ _ (cell 0 (by omega)) (cell 1 (by omega)) (cell 2 (by omega)) (cell 3 (by omega)) (cell 4 (by omega))
  intro k hk
  ext i hi
  have hr := row (k / 5) (by omega) i hi
  have hk5 : k = 5 * (k / 5) + k % 5 := by omega
  have : k % 5 < 5 := Nat.mod_lt _ (by omega)
  rcases (show k % 5 = 0 ∨ k % 5 = 1 ∨ k % 5 = 2 ∨ k % 5 = 3 ∨ k % 5 = 4 by omega) with e | e | e | e | e
  all_goals (rw [e] at hk5; (first | (have e0 : k = 5 * (k / 5) := hk5) | skip))
  · have := hr.1; rwa [← show k = 5 * (k / 5) by omega] at this
  · have := hr.2.1; rwa [← hk5] at this
  · have := hr.2.2.1; rwa [← hk5] at this
  · have := hr.2.2.2.1; rwa [← hk5] at this
  · have := hr.2.2.2.2; rwa [← hk5] at this


/-- The register of the rounds' numbers. -/
def lfs : Nat → Nat
  | 0 => 1
  | i + 1 => if 255 < 2 * lfs i then (2 * lfs i) ^^^ 369 else 2 * lfs i
theorem lfs_step : ∀ x : Fin 256, (if 255 < 2 * x.val then (2 * x.val) ^^^ 369 else 2 * x.val) < 256 := by decide +kernel
theorem lfs_lt : ∀ i, lfs i < 256
  | 0 => by decide
  | i + 1 => lfs_step ⟨lfs i, lfs_lt i⟩
/-- A round's number, of its first j places. -/
def rcP (r : Nat) : Nat → Nat
  | 0 => 0
  | j + 1 => rcP r j ||| ((lfs (7 * r + j) % 2) * 2 ^ (2 ^ j - 1))
theorem rcP_lt (r : Nat) : ∀ j, j ≤ 7 → rcP r j < 2 ^ 64
  | 0, _ => by show 0 < 2 ^ 64; decide
  | j + 1, h => by
    rw [rcP]
    refine Nat.or_lt_two_pow (rcP_lt r j (by omega)) ?_
    have h1 : lfs (7 * r + j) % 2 < 2 := Nat.mod_lt _ (by omega)
    have h2 : (2 : Nat) ^ (2 ^ j - 1) ≤ 2 ^ 63 := Nat.pow_le_pow_right (by omega) (by
      have : (2 : Nat) ^ j ≤ 2 ^ 6 := Nat.pow_le_pow_right (by omega) (by omega)
      omega)
    have h3 : (lfs (7 * r + j) % 2) * 2 ^ (2 ^ j - 1) ≤ 1 * 2 ^ (2 ^ j - 1) := Nat.mul_le_mul_right _ (by omega)
    omega
def rcv (r : Nat) : Ln := BitVec.ofNat 64 (rcP r 7)
/-- A round of a state; all of them. -/
def iota (r : Nat) (f : Nat → Ln) (i : Nat) : Ln := if i = 0 then f 0 ^^^ rcv r else f i
def rnd (r : Nat) (f : Nat → Ln) : Nat → Ln := iota r (chi (rhopi (theta f)))
def rnds (f : Nat → Ln) : Nat → Nat → Ln
  | 0 => f
  | r + 1 => rnd r (rnds f r)
theorem iota_inj {r : Nat} {f g : Nat → Ln} (h : EqOn (iota r f) (iota r g)) : EqOn f g := by
  intro i hi
  have h1 := h i hi
  unfold iota at h1
  by_cases e : i = 0
  · subst e
    rw [if_pos rfl, if_pos rfl] at h1
    rw [BitVec.xor_comm (f 0), BitVec.xor_comm (g 0)] at h1
    exact xor_cancel h1
  · rwa [if_neg e, if_neg e] at h1
theorem rnd_inj {r : Nat} {f g : Nat → Ln} (h : EqOn (rnd r f) (rnd r g)) : EqOn f g := theta_inj (rhopi_inj (chi_inj (iota_inj h)))
theorem rnds_inj {f g : Nat → Ln} : ∀ n, EqOn (rnds f n) (rnds g n) → EqOn f g
  | 0, h => h
  | n + 1, h => rnds_inj n (rnd_inj h)
theorem EqOn.refl (f : Nat → Ln) : EqOn f f := fun _ _ => rfl
theorem EqOn.trans {f g k : Nat → Ln} (h : EqOn f g) (h' : EqOn g k) : EqOn f k := fun i hi => (h i hi).trans (h' i hi)
theorem EqOn.symm {f g : Nat → Ln} (h : EqOn f g) : EqOn g f := fun i hi => (h i hi).symm
theorem par_on {f g : Nat → Ln} (h : EqOn f g) (x : Nat) (hx : x < 5) : par f x = par g x := by
  unfold par
  rw [h x (by omega), h (x + 5) (by omega), h (x + 10) (by omega), h (x + 15) (by omega), h (x + 20) (by omega)]
theorem theta_on {f g : Nat → Ln} (h : EqOn f g) : EqOn (theta f) (theta g) := fun i hi => by
  unfold theta
  rw [h i hi, par_on h _ (Nat.mod_lt _ (by omega)), par_on h _ (Nat.mod_lt _ (by omega))]
theorem rpS_lt : ∀ j, j < 25 → (rpS j).1 < 25 ∧ (rpS j).2 < 64 := by decide
theorem rhopi_on {f g : Nat → Ln} (h : EqOn f g) : EqOn (rhopi f) (rhopi g) := fun j hj => by
  unfold rhopi
  rw [h _ (rpS_lt j hj).1]
theorem chi_on {f g : Nat → Ln} (h : EqOn f g) : EqOn (chi f) (chi g) := fun i hi => by
  unfold chi
  rw [h i hi, h (i / 5 * 5 + (i + 1) % 5) (by omega), h (i / 5 * 5 + (i + 2) % 5) (by omega)]
theorem iota_on {f g : Nat → Ln} (r : Nat) (h : EqOn f g) : EqOn (iota r f) (iota r g) := fun i hi => by
  unfold iota
  rw [h i hi, h 0 (by omega)]
theorem rnd_on {f g : Nat → Ln} (r : Nat) (h : EqOn f g) : EqOn (rnd r f) (rnd r g) := iota_on r (chi_on (rhopi_on (theta_on h)))
theorem rnds_on {f g : Nat → Ln} (h : EqOn f g) : ∀ n, EqOn (rnds f n) (rnds g n)
  | 0 => h
  | n + 1 => rnd_on n (rnds_on h n)

/-- A number of 64 bits as a value; so many of them as cells. -/
def ln (x : Ln) : Int := (x.toNat : Int)
abbrev uv (x : Ln) : Value := .int .u64 (ln x)
def Fc (n : Nat) (f : Nat → Ln) : Array Value := ((List.range n).map fun p => uv (f p)).toArray
theorem Fc_size (n : Nat) (f : Nat → Ln) : (Fc n f).size = n := by unfold Fc; simp
theorem Fc_get (n : Nat) (f : Nat → Ln) (p : Nat) (hp : p < n) : (Fc n f)[p]? = some (uv (f p)) := by unfold Fc; simp [hp]
theorem Fc_congr {n : Nat} {f g : Nat → Ln} (h : ∀ p, p < n → f p = g p) : Fc n f = Fc n g := by
  apply Array.ext_getElem?
  intro p
  by_cases hp : p < n
  · rw [Fc_get _ _ _ hp, Fc_get _ _ _ hp, h p hp]
  · rw [Array.getElem?_eq_none (by rw [Fc_size]; omega), Array.getElem?_eq_none (by rw [Fc_size]; omega)]
def upd (f : Nat → Ln) (k : Nat) (v : Ln) : Nat → Ln := fun p => if p = k then v else f p
theorem Fc_set (n : Nat) (f : Nat → Ln) (k : Nat) (v : Ln) (hk : k < n) : (Fc n f).setIfInBounds k (uv v) = Fc n (upd f k v) := by
  apply Array.ext_getElem?
  intro p
  by_cases hp : p < n
  · rw [Fc_get _ _ _ hp]
    by_cases e : k = p
    · subst e
      rw [Array.getElem?_setIfInBounds_self_of_lt (by rw [Fc_size]; exact hk)]
      unfold upd; rw [if_pos rfl]
    · rw [Array.getElem?_setIfInBounds_ne e, Fc_get _ _ _ hp]
      unfold upd; rw [if_neg (fun h => e h.symm)]
  · rw [Array.getElem?_eq_none (by rw [Array.size_setIfInBounds, Fc_size]; omega), Array.getElem?_eq_none (by rw [Fc_size]; omega)]
theorem Fc_one (n : Nat) (f : Nat → Ln) : (Fc n f).all (·.oneCell') = true := by
  rw [Array.all_eq_true_iff_forall_mem]
  intro v hv
  unfold Fc at hv
  simp only [List.mem_toArray, List.mem_map] at hv
  obtain ⟨p, _, rfl⟩ := hv
  rfl
theorem ln_lo (x : Ln) : 0 ≤ ln x := Int.natCast_nonneg _
theorem ln_hi (x : Ln) : ln x ≤ 18446744073709551615 := by have := x.isLt; unfold ln; omega
theorem ln_inj {x y : Ln} (h : ln x = ln y) : x = y := by unfold ln at h; exact BitVec.eq_of_toNat_eq (by omega)
theorem ln_of (n : Nat) (h : n < 18446744073709551616) : ln (BitVec.ofNat 64 n) = n := by unfold ln; rw [BitVec.toNat_ofNat, Nat.mod_eq_of_lt h]
theorem ln_zero : ln 0#64 = 0 := rfl
theorem ln_ex (i : Int) (h0 : 0 ≤ i) (h1 : i ≤ 18446744073709551615) : ∃ x : Ln, i = ln x :=
  ⟨BitVec.ofNat 64 i.toNat, by rw [ln_of _ (by omega)]; omega⟩
theorem uv_xor (x y : Ln) : bits .xor .u64 (ln x) (ln y) = ln (x ^^^ y) := by
  unfold ln; rw [bits_xor_u64_nat _ _ x.isLt y.isLt, BitVec.toNat_xor]
theorem uv_and (x y : Ln) : bits .and .u64 (ln x) (ln y) = ln (x &&& y) := by
  unfold ln; rw [bits_and_u64_nat _ _ x.isLt y.isLt, BitVec.toNat_and]
theorem uv_or (x y : Ln) : bits .or .u64 (ln x) (ln y) = ln (x ||| y) := by
  unfold ln; rw [bits_or_u64_nat _ _ x.isLt y.isLt, BitVec.toNat_or]
theorem uv_not (x : Ln) : bits .xor .u64 18446744073709551615 (ln x) = ln (~~~ x) := by
  have h := uv_xor (BitVec.allOnes 64) x
  rw [show ln (BitVec.allOnes 64) = 18446744073709551615 by unfold ln; rw [BitVec.toNat_allOnes]; rfl] at h
  rw [BitVec.not_def]
  exact h
theorem rot_nat (x : Ln) (n : Nat) (hn : n < 64) : bits .or .u64 (IntKind.u64.wrap (ln x * 2 ^ n)) (ln x / 2 ^ (64 - n)) = ln (rot x n) := by
  have e1 : IntKind.u64.wrap (ln x * 2 ^ n) = ln (x <<< n) := by
    unfold ln
    rw [BitVec.toNat_shiftLeft, Nat.shiftLeft_eq]
    rw [show (x.toNat : Int) * 2 ^ n = ((x.toNat * 2 ^ n : Nat) : Int) by simp, wrapM]
  have e2 : ln x / 2 ^ (64 - n) = ln (x >>> (64 - n)) := by
    unfold ln
    rw [BitVec.toNat_ushiftRight, Nat.shiftRight_eq_div_pow]; simp
  rw [e1, e2, uv_or]
  unfold rot
  rw [BitVec.rotateLeft_def, Nat.mod_eq_of_lt hn]
end Go.Proofs.YtjmfnafbjfceoaaDoor
