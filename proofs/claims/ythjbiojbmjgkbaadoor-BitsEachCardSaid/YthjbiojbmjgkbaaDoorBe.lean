/- bits: small words as numbers (below, the reference's by); what fills, the number at a place. -/
import Derived.Test.YthjbiojbmjgkbaaDoorBd
namespace Go.Proofs.YthjbiojbmjgkbaaDoor
open Go.RowKit
attribute [local go_sem] ix0 ix1 ix2 ix3
theorem smB_iff (a : Nat) (ha : a < MM) : smB a = decide (a < B64) := by
  have e := vl_lb a ha
  by_cases h : a < B64
  · have h1 : lb a 1 = 0 := by unfold lb; rw [Nat.div_eq_of_lt (by rw [Nat.pow_one]; exact h)]; rfl
    have h2 : lb a 2 = 0 := by unfold lb; rw [Nat.div_eq_of_lt (by unfold B64 at *; omega)]; rfl
    have h3 : lb a 3 = 0 := by unfold lb; rw [Nat.div_eq_of_lt (by unfold B64 at *; omega)]; rfl
    rw [smB_true h1 h2 h3]; simp [h]
  · have : smB a = false := by
      cases hs : smB a with
      | false => rfl
      | true =>
        exfalso
        unfold smB at hs
        simp only [Bool.and_eq_true, beq_iff_eq] at hs
        obtain ⟨⟨h1, h2⟩, h3⟩ := hs
        unfold lb at h1 h2 h3
        have h1 := Int.ofNat.inj h1
        have h2 := Int.ofNat.inj h2
        have h3 := Int.ofNat.inj h3
        rw [h1, h2, h3] at e
        unfold vl at e
        simp only [Nat.mul_zero, Nat.add_zero] at e
        have := Nat.mod_lt (a / B64 ^ 0) B64_pos
        omega
    rw [this]; simp [h]
theorem smV_lt (a : Nat) (h : a < B64) (ha : a < MM) : smV a = a := by
  unfold smV; rw [smB_iff a ha]; simp only [h, decide_true, if_true]; rw [lb_low0, Nat.mod_eq_of_lt h]

theorem below_yes (a n : Nat) (hn : n ≤ 65536) (h : a < n) (w : World) :
    Calls Tryd.prog 56 #[W a, .int .i64 n] w fun e w' => e = .returned (.tuple #[.int .i64 a, .bool true]) ∧ Below w.heap.size w w' := by
  have hB : a < B64 := by unfold B64; omega
  have hM : a < MM := by rw [MM_eq]; omega
  have hs := small_any a
  rw [smV_lt a hB hM, smB_iff a hM, decide_eq_true hB] at hs
  have HS := Lib.hid hs
  have HB := Lib.hid (balloc (Below.refl w.heap.size w) (.cells (Wc a) 25))
  clear hs hM hB
  have g1 : IntKind.u64.wrap (n : Int) = n := IntWalk.u64_in _ (by omega)
  have g2 : IntKind.i64.wrap (a : Int) = a := IntWalk.i64_in _ (by omega)
  go_enter Tryd.func56, Tryd.ntmps56
  go_wp2_with fail
  refine (HS.out _).mono ?_
  rintro e w1 ⟨rfl, h1⟩
  have H1 := Lib.hid (bstep HB.out h1)
  clear h1 HB HS
  go_wp2
  go_ret2
  exact ⟨rfl, H1.out⟩
theorem below_no (a n : Nat) (ha : a < MM) (hn : n ≤ 65536) (h : ¬ a < n) (w : World) :
    Calls Tryd.prog 56 #[W a, .int .i64 n] w fun e w' => e = .returned (.tuple #[.int .i64 0, .bool false]) ∧ Below w.heap.size w w' := by
  have hs := small_any a
  have HB := Lib.hid (balloc (Below.refl w.heap.size w) (.cells (Wc a) 25))
  have g1 : IntKind.u64.wrap (n : Int) = n := IntWalk.u64_in _ (by omega)
  by_cases hB : a < B64
  · rw [smV_lt a hB ha, smB_iff a ha, decide_eq_true hB] at hs
    have HS := Lib.hid hs
    clear hs
    have h2 : ¬ (a : Int) < n := by omega
    go_enter Tryd.func56, Tryd.ntmps56
    go_wp2_with fail
    refine (HS.out _).mono ?_
    rintro e w1 ⟨rfl, h1⟩
    have H1 := Lib.hid (bstep HB.out h1)
    clear h1 HB HS
    go_wp2
    go_ret2
    exact ⟨rfl, H1.out⟩
  · rw [smB_iff a ha, decide_eq_false hB] at hs
    have HS := Lib.hid hs
    clear hs
    go_enter Tryd.func56, Tryd.ntmps56
    go_wp2_with fail
    refine (HS.out _).mono ?_
    rintro e w1 ⟨rfl, h1⟩
    have H1 := Lib.hid (bstep HB.out h1)
    clear h1 HB HS
    go_wp2
    go_ret2
    exact ⟨rfl, H1.out⟩
/-- By how many places; 256 at most. -/
def byN (a : Nat) : Nat := if a ≤ 256 then a else 256
theorem by_any (a : Nat) (ha : a < MM) (w : World) :
    Calls Tryd.prog 54 #[W a] w fun e w' => e = .returned (.int .i64 (byN a)) ∧ Below w.heap.size w w' := by
  have hs := rsmall_any a
  have HB := Lib.hid (balloc (Below.refl w.heap.size w) (.cells (Wc a) 25))
  by_cases hB : a < B64
  · rw [smV_lt a hB ha, smB_iff a ha, decide_eq_true hB] at hs
    have HS := Lib.hid hs
    clear hs
    unfold B64 at hB
    by_cases h : a ≤ 256
    · have E : Hid (byN a = a) := if_pos h
      have g2 : IntKind.i64.wrap (a : Int) = a := IntWalk.i64_in _ (by omega)
      rw [E.out]
      go_enter Tryd.func54, Tryd.ntmps54
      go_wp2_with fail
      refine (HS.out _).mono ?_
      rintro e w1 ⟨rfl, h1⟩
      have H1 := Lib.hid (bstep HB.out h1)
      clear h1 HB HS
      go_wp2
      go_ret
      exact ⟨rfl, H1.out⟩
    · have E : Hid (byN a = 256) := if_neg h
      rw [E.out]
      have h2 : (256 : Int) < a := by omega
      go_enter Tryd.func54, Tryd.ntmps54
      go_wp2_with fail
      refine (HS.out _).mono ?_
      rintro e w1 ⟨rfl, h1⟩
      have H1 := Lib.hid (bstep HB.out h1)
      clear h1 HB HS
      go_wp2
      go_ret
      exact ⟨rfl, H1.out⟩
  · rw [smB_iff a ha, decide_eq_false hB] at hs
    have HS := Lib.hid hs
    clear hs
    have E : Hid (byN a = 256) := if_neg (by unfold B64 at hB; omega)
    rw [E.out]
    go_enter Tryd.func54, Tryd.ntmps54
    go_wp2_with fail
    refine (HS.out _).mono ?_
    rintro e w1 ⟨rfl, h1⟩
    have H1 := Lib.hid (bstep HB.out h1)
    clear h1 HB HS
    go_wp2
    go_ret
    exact ⟨rfl, H1.out⟩

theorem noughts_any (a : Nat) (w : World) : Calls Tryd.prog 52 #[W a] w fun e w' => e = .returned (.int .u64 0) ∧ Below w.heap.size w w' := by
  go_enter Tryd.func52, Tryd.ntmps52
  go_wp2
  go_ret
  exact ⟨rfl, balloc (Below.refl _ _) _⟩
/-- What signs fills with. -/
def sgI (b : Bool) : Int := if b then 18446744073709551615 else 0
theorem signs_any (a : Nat) (w : World) : Calls Tryd.prog 55 #[W a] w fun e w' => e = .returned (.int .u64 (sgI (ngN a))) ∧ Below w.heap.size w w' := by
  have hn := neg_any a
  have HB := Lib.hid (balloc (Below.refl w.heap.size w) (.cells (Wc a) 61))
  cases hb : ngN a
  all_goals
    rw [hb] at hn
    clear hb
    have HS := Lib.hid hn
    clear hn
    go_enter Tryd.func55, Tryd.ntmps55
    go_wp2_with fail
    refine (HS.out _).mono ?_
    rintro e w1 ⟨rfl, h1⟩
    have H1 := Lib.hid (bstep HB.out h1)
    clear h1 HB HS
    go_wp2
    go_ret
    exact ⟨rfl, H1.out⟩
/-- The number at a place; beyond them what fills. -/
def numI (a : Nat) (fl : Int) (p : Int) : Int := if 0 ≤ p ∧ p < 4 then lb a p.toNat else fl
theorem at_in (a k : Nat) (hk : k < 4) (w : World) : Calls Tryd.prog 86 #[W a, .int .i64 k] w fun e w' => e = .returned (.tuple #[.int .u64 (lb a k), .bool true]) ∧ Below w.heap.size w w' := by
  have hc := (cell_of_row _ _ k _ _ _ (Blk.new w 61 (Wc a))).trans (wc_get a k hk)
  have h2 : ¬ (4 : Int) ≤ k := by omega
  go_enter Tryd.func86, Tryd.ntmps86
  go_wp2
  go_ret2
  exact ⟨rfl, balloc (Below.refl _ _) _⟩
theorem at_out (a : Nat) (p : Int) (hp : ¬ (0 ≤ p ∧ p < 4)) (w : World) : Calls Tryd.prog 86 #[W a, .int .i64 p] w fun e w' => e = .returned (.tuple #[.int .u64 0, .bool false]) ∧ Below w.heap.size w w' := by
  by_cases h : p < 0
  · clear hp
    go_enter Tryd.func86, Tryd.ntmps86
    go_wp2
    go_ret2
    exact ⟨rfl, balloc (Below.refl _ _) _⟩
  · have h2 : (4 : Int) ≤ p := by omega
    clear hp
    go_enter Tryd.func86, Tryd.ntmps86
    go_wp2
    go_ret2
    exact ⟨rfl, balloc (Below.refl _ _) _⟩

/-- A draft: its parts, and what fills. -/
abbrev Dv (a : Nat) (F : Value) : Value := .agg #[.int .u64 (lb a 0), .int .u64 (lb a 1), .int .u64 (lb a 2), .int .u64 (lb a 3), F]
abbrev Df (a : Nat) (F : Value) : Array Value := #[.int .u64 (lb a 0), .int .u64 (lb a 1), .int .u64 (lb a 2), .int .u64 (lb a 3), F]
/-- A method of a word's parts, handed over as a value, tells x. -/
def Fills (F : Value) (x : Int) : Prop := ∃ G v, F = .func (.func G) #[v] #[] ∧ (∀ args w, (callFunc G args).run Tryd.prog w = .ok (.enter G args) w) ∧ ∀ w, Calls Tryd.prog G #[v] w fun e w' => e = .returned (.int .u64 x) ∧ Below w.heap.size w w'
theorem fills_noughts (a : Nat) : Fills (.func (.func 52) #[W a] #[]) 0 := ⟨_, _, rfl, enters_of Tryd.func52 (by kernel_rfl) rfl, noughts_any a⟩
theorem fills_signs (a : Nat) : Fills (.func (.func 55) #[W a] #[]) (sgI (ngN a)) := ⟨_, _, rfl, enters_of Tryd.func55 (by kernel_rfl) rfl, signs_any a⟩
set_option maxHeartbeats 1000000 in
theorem number_any (a : Nat) (F : Value) (x : Int) (hF : Fills F x) (p : Int) (w : World) :
    Calls Tryd.prog 83 #[Dv a F, .int .i64 p] w fun e w' => e = .returned (.int .u64 (numI a x p)) ∧ Below w.heap.size w w' := by
  obtain ⟨G, v, rfl, hG, hc⟩ := hF
  have HB := Lib.hid (balloc (Below.refl w.heap.size w) (.cells (Df a (.func (.func G) #[v] #[])) 64))
  have HD := Lib.hid (Blk.new w 64 (Df a (.func (.func G) #[v] #[])))
  by_cases hp : 0 ≤ p ∧ p < 4
  · have E : Hid (numI a x p = lb a p.toNat) := if_pos hp
    rw [E.out]
    obtain ⟨k, rfl⟩ := Int.eq_ofNat_of_zero_le hp.1
    have hk : k < 4 := by omega
    clear E hp HD
    go_enter Tryd.func83, Tryd.ntmps83
    go_wp2_with fail
    refine (at_in a k hk _).mono ?_
    rintro e w1 ⟨rfl, h1⟩
    have H1 := Lib.hid (bstep HB.out h1)
    clear h1 HB
    go_wp2
    go_ret
    exact ⟨rfl, H1.out⟩
  · have E : Hid (numI a x p = x) := if_neg hp
    rw [E.out]
    have HP := Lib.hid hp
    clear E hp
    go_enter Tryd.func83, Tryd.ntmps83
    go_wp2_with fail
    refine (at_out a p HP.out _).mono ?_
    rintro e w1 ⟨rfl, h1⟩
    have H1 := Lib.hid (bstep HB.out h1)
    have c4 := cell_of_row _ _ 4 _ _ _ (HD.out.keep h1)
    clear h1 HB HD
    go_wp2_with fail
    refine (hc _).mono ?_
    rintro e w2 ⟨rfl, h2⟩
    have H2 := Lib.hid (bstep H1.out h2)
    clear h2 H1
    go_wp2
    go_ret
    exact ⟨rfl, H2.out⟩
end Go.Proofs.YthjbiojbmjgkbaaDoor
