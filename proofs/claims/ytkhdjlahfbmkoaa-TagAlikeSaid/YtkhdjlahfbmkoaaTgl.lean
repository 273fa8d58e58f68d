/- tag: likeness: Equal; Same on both sides; EqualFunc. -/
import Derived.Test.YtkhdjlahfbmkoaaTgk
namespace Go.Proofs.Ytkhdjlahfbmkoaa
open Go.RowKit Go.Shelf

theorem alB_refl (a : List (Nat × Nat)) (up : Nat) : alB a a up = true := by
  unfold alB leq beqU
  simp
set_option maxRecDepth 100000 in
set_option maxHeartbeats 2000000 in
theorem equal_any9 (B C : Nat) (va vb : Value) (a b : List (Nat × Nat)) (w : World) (ha : Cs B w va a) (hb : Cs C w vb b) :
    Calls Try.prog 8 #[va, vb] w fun e w' => e = .returned (.bool (alB a b 18446744073709551615)) ∧ Below w.heap.size w w' := by
  have HC := Lib.hid (rtalike_any B C 18446744073709551615 (by decide) va vb a b w ha hb)
  obtain ⟨xa, ca, rfl⟩ := ha.is
  obtain ⟨xb, cb, rfl⟩ := hb.is
  clear ha hb
  go_enter Try.func8, Try.ntmps8
  go_wp2_with (first | (go_at_call 26; refine (HC.out).mono ?_; rintro e w1 ⟨rfl, hw1⟩; have H1 := Lib.hid hw1; clear hw1) | fail)
  go_ret
  exact ⟨rfl, H1.out⟩
/-- Are two values alike? -/
def smB (n a m b up : Nat) : Bool := a == b && (n == m || !sub a up)
set_option maxRecDepth 100000 in
set_option maxHeartbeats 2000000 in
theorem same_any9 (n a m b up : Nat) (ha : a < 2 ^ 64) (hup : up < 2 ^ 64) (hn : n < MM) (hm : m < MM) (w : World) :
    Calls Try.prog 27 #[vV n a, vV m b, .int .u64 (up : Nat)] w fun e w' => e = .returned (.bool (smB n a m b up)) ∧ Below w.heap.size w w' := by
  have heq := eqW n m
  rw [Nat.mod_eq_of_lt hn, Nat.mod_eq_of_lt hm] at heq
  have HG := Lib.hid (fun X => below_any a up ha hup X)
  have HV := Lib.hid (show smB n a m b up = (a == b && (n == m || !sub a up)) from rfl)
  have hW : Below w.heap.size w ((w.alloc (.cells (vA n a) 29)).alloc (.cells (vA m b) 29)) := balloc (balloc (Below.refl _ _) _) _
  have HW := Lib.hid hW
  have HN1 := Lib.hid (show Blk ((w.alloc (.cells (vA n a) 29)).alloc (.cells (vA m b) 29)) w.heap.size 29 (vA n a) from (Blk.new w _ _).alloc _)
  have HN2 := Lib.hid (show Blk ((w.alloc (.cells (vA n a) 29)).alloc (.cells (vA m b) 29)) (w.heap.size + 1) 29 (vA m b) from Blk.newS w _ _ _)
  clear ha hup hn hm hW
  by_cases h1 : a = b
  · subst h1
    have n1 : ((a : Int) == (a : Int)) = true := by simp
    rw [show (a == a) = true by simp, Bool.true_and] at HV
    obtain ⟨t, ht⟩ : ∃ t, sub a up = t := ⟨_, rfl⟩
    rw [ht] at HG HV
    clear ht
    obtain ⟨q, hq⟩ : ∃ q, (n == m) = q := ⟨_, rfl⟩
    rw [hq] at heq HV
    clear hq
    cases t <;> cases q
    all_goals
      go_enter Try.func27, Try.ntmps27
      go_wp2_with (first | (go_at_call 50; refine (HG.out _).mono ?_; rintro e w1 ⟨rfl, hw1⟩; have H1 := Lib.hid hw1; clear hw1) | fail)
      go_ret
      rw [HV.out]
      first
        | exact ⟨rfl, HW.out⟩
        | exact ⟨rfl, bstep HW.out H1.out⟩
  · have n1 : ((a : Int) == (b : Int)) = false := by simp; omega
    rw [show (a == b) = false by simp [h1], Bool.false_and] at HV
    go_enter Try.func27, Try.ntmps27
    go_wp2_with fail
    go_ret
    rw [HV.out]
    exact ⟨rfl, HW.out⟩
set_option maxRecDepth 100000 in
set_option maxHeartbeats 2000000 in
theorem rsame_any9 (n a m b up : Nat) (ha : a < 2 ^ 64) (hup : up < 2 ^ 64) (hn : n < MM) (hm : m < MM) (w : World) :
    Calls Try.prog 28 #[vV n a, vV m b, .int .u64 (up : Nat)] w fun e w' => e = .returned (.bool (smB n a m b up)) ∧ Below w.heap.size w w' := by
  have heq := eqW n m
  rw [Nat.mod_eq_of_lt hn, Nat.mod_eq_of_lt hm] at heq
  have HG := Lib.hid (fun X => rbelow_any a up ha hup X)
  have HV := Lib.hid (show smB n a m b up = (a == b && (n == m || !sub a up)) from rfl)
  have hW : Below w.heap.size w ((w.alloc (.cells (vA n a) 29)).alloc (.cells (vA m b) 29)) := balloc (balloc (Below.refl _ _) _) _
  have HW := Lib.hid hW
  have HN1 := Lib.hid (show Blk ((w.alloc (.cells (vA n a) 29)).alloc (.cells (vA m b) 29)) w.heap.size 29 (vA n a) from (Blk.new w _ _).alloc _)
  have HN2 := Lib.hid (show Blk ((w.alloc (.cells (vA n a) 29)).alloc (.cells (vA m b) 29)) (w.heap.size + 1) 29 (vA m b) from Blk.newS w _ _ _)
  clear ha hup hn hm hW
  by_cases h1 : a = b
  · subst h1
    have n1 : ((a : Int) == (a : Int)) = true := by simp
    rw [show (a == a) = true by simp, Bool.true_and] at HV
    obtain ⟨t, ht⟩ : ∃ t, sub a up = t := ⟨_, rfl⟩
    rw [ht] at HG HV
    clear ht
    obtain ⟨q, hq⟩ : ∃ q, (n == m) = q := ⟨_, rfl⟩
    rw [hq] at heq HV
    clear hq
    cases t <;> cases q
    all_goals
      go_enter Try.func28, Try.ntmps28
      go_wp2_with (first | (go_at_call 29; refine (HG.out _).mono ?_; rintro e w1 ⟨rfl, rfl⟩) | fail)
      go_ret
      rw [HV.out]
      first
        | exact ⟨rfl, HW.out⟩
        | exact ⟨rfl, bstep HW.out H1.out⟩
  · have n1 : ((a : Int) == (b : Int)) = false := by simp; omega
    rw [show (a == b) = false by simp [h1], Bool.false_and] at HV
    go_enter Try.func28, Try.ntmps28
    go_wp2_with fail
    go_ret
    rw [HV.out]
    exact ⟨rfl, HW.out⟩

set_option maxRecDepth 100000 in
set_option maxHeartbeats 2000000 in
theorem alike1_any (p q : Nat × Nat) (w : World) :
    Calls Try.prog 49 #[cV p.1 p.2, cV q.1 q.2] w fun e w' => e = .returned (.bool (p.2 == q.2)) ∧ Below w.heap.size w w' := by
  have HI := Lib.hid (int_beq p.2 q.2)
  go_enter Try.func49, Try.ntmps49
  go_wp2_with fail
  go_ret
  rw [HI.out]
  exact ⟨rfl, balloc (balloc (Below.refl _ _) _) _⟩
set_option maxRecDepth 100000 in
set_option maxHeartbeats 4000000 in
theorem equalFunc_any (B C : Nat) (va vb : Value) (a b : List (Nat × Nat)) (w : World) (ha : Cs B w va a) (hb : Cs C w vb b) :
    Calls Try.prog 48 #[va, vb, .func (.func 49) #[] #[]] w fun e w' => e = .returned (.bool (eqL a b)) ∧ Below w.heap.size w w' := by
  have HA := Lib.hid ha
  have HB := Lib.hid hb
  have hal : a.length ≤ 9223372036854775807 := by obtain ⟨_, _, _, _, _, h, _⟩ := ha; exact h
  obtain ⟨xa, ca, rfl⟩ := ha.is
  obtain ⟨xb, cb, rfl⟩ := hb.is
  clear ha hb
  by_cases hlen : a.length = b.length
  · have hlb : ((a.length : Int) != (b.length : Int)) = false := by rw [hlen]; simp
    have HE := Lib.hid hlen
    have HL := Lib.hid hal
    clear hlen hal
    go_enter Try.func48, Try.ntmps48
    go_wp2_with fail
    clear hlb
    go_loopw [17] (fun i wr => ∃ k : Nat, k ≤ a.length ∧ i = .int .i64 k ∧ (List.range k).all (fun j => leq a b j) = true ∧ Below w.heap.size w wr) (fun i _ => a.length - (intOf i).toNat)
    case atStart => exact ⟨0, by omega, rfl, rfl, Below.refl _ _⟩
    case round =>
      obtain ⟨k, hk, rfl, hall, hW⟩ := hrel
      have HW := Lib.hid hW
      have hL := HL.out
      by_cases hlt : k < a.length
      · have hltI : (k : Int) < (a.length : Int) := by omega
        have hltJ : (k : Int) < (b.length : Int) := by have := HE.out; omega
        obtain ⟨b1, o1, c1, e, hx1, d0, d1⟩ := Cs.at (HA.out.new hW) hlt
        injection e with e1 e2 e3
        subst e1 e3
        obtain ⟨b2, o2, c2, e, hx2, d2, d3⟩ := Cs.at (HB.out.new hW) (k := k) (by have := HE.out; omega)
        injection e with e4 e5 e6
        subst e4 e6
        have hal1 := balloc (Below.refl wr.heap.size wr) (.cells (cA (cg a k).1 (cg a k).2) 53)
        have d2' := (hal1.cell (p := ⟨b2, o2 + k * 2, none⟩) hx2).trans d2
        have d3' := (hal1.cell (p := ⟨b2, o2 + k * 2 + 1, none⟩) hx2).trans d3
        have HF := Lib.hid (And.intro hk (And.intro hall (And.intro hlt hL)))
        have HV := Lib.hid (show leq a b k = ((cg a k).2 == (cg b k).2) from rfl)
        obtain ⟨p, hp⟩ : ∃ p, cg a k = p := ⟨_, rfl⟩
        obtain ⟨q, hq⟩ : ∃ q, cg b k = q := ⟨_, rfl⟩
        rw [hp, hq] at HV
        rw [hp] at d0 d1 d2' d3' hal1
        rw [hq] at d2' d3'
        have HC := Lib.hid (fun X => alike1_any p q X)
        obtain ⟨t, ht⟩ : ∃ t, (p.2 == q.2) = t := ⟨_, rfl⟩
        rw [ht] at HV HC
        have hal2 := Lib.hid (balloc hal1 (.cells (cA q.1 q.2) 53))
        clear ht hp hq e2 e5 hk hall hlt hW hx1 hx2 d2 d3 hal1
        cases t with
        | true =>
          go_wp2_with (first | (go_at_call 49; refine (HC.out _).mono ?_; rintro e w1 ⟨rfl, hw1⟩; have H1 := Lib.hid hw1; clear hw1) | fail)
          go_round
          case rel => exact ⟨k + 1, by have := HF.out; omega, by have := HF.out; go_num, by rw [all_range_snoc, HF.out.2.1, HV.out]; rfl, bstep (bstep HW.out hal2.out) H1.out⟩
          case measure => have := HF.out; simp [intOf]; omega
        | false =>
          have HN := Lib.hid (show eqL a b = false by unfold eqL; rw [all_range_false _ HF.out.2.2.1 HV.out]; simp)
          go_wp2_with (first | (go_at_call 49; refine (HC.out _).mono ?_; rintro e w1 ⟨rfl, hw1⟩; have H1 := Lib.hid hw1; clear hw1) | fail)
          go_ret
          rw [HN.out]
          exact ⟨rfl, bstep (bstep HW.out hal2.out) H1.out⟩
      · obtain rfl : k = a.length := by omega
        have HN := Lib.hid (show eqL a b = true by unfold eqL; rw [hall, HE.out]; simp)
        clear hall hW
        go_wp2_with fail
        go_ret
        rw [HN.out]
        exact ⟨rfl, HW.out⟩
  · have hlb : ((a.length : Int) != (b.length : Int)) = true := by simp; omega
    have HE := Lib.hid (show eqL a b = false by unfold eqL; simp [hlen])
    clear hlen hal
    go_enter Try.func48, Try.ntmps48
    go_wp2_with fail
    go_ret
    rw [HE.out]
    exact ⟨rfl, Below.refl _ _⟩
end Go.Proofs.Ytkhdjlahfbmkoaa
