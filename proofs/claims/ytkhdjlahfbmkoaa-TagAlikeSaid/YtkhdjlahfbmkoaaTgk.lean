/- tag: likeness: the reference; EqualFunc; Same. -/
import Derived.Test.YtkhdjlahfbmkoaaTgj
namespace Go.Proofs.Ytkhdjlahfbmkoaa
open Go.RowKit Go.Shelf

theorem int_beq (x y : Nat) : ((x : Int) == (y : Int)) = (x == y) := by rw [Bool.eq_iff_iff, beq_iff_eq, beq_iff_eq]; omega
/-- Are a place's labels alike? -/
def leq (a b : List (Nat × Nat)) (k : Nat) : Bool := (cg a k).2 == (cg b k).2
/-- Is a place's byte alike, if it is known? -/
def beqU (a b : List (Nat × Nat)) (up k : Nat) : Bool := !sub (cg a k).2 up || (cg a k).1 == (cg b k).1
/-- Are two lists alike up to a label? -/
def alB (a b : List (Nat × Nat)) (up : Nat) : Bool := a.length == b.length && (List.range a.length).all fun k => leq a b k && beqU a b up k
/-- Are as many, and all labels alike? -/
def eqL (a b : List (Nat × Nat)) : Bool := a.length == b.length && (List.range a.length).all fun k => leq a b k
theorem all_range_snoc (f : Nat → Bool) (k : Nat) : (List.range (k + 1)).all f = ((List.range k).all f && f k) := by rw [List.range_succ, List.all_append]; simp
theorem all_range_false (f : Nat → Bool) {k n : Nat} (h : k < n) (hf : f k = false) : (List.range n).all f = false := by
  rw [List.all_eq_false]
  exact ⟨k, List.mem_range.2 h, by rw [hf]; simp⟩
set_option maxRecDepth 100000 in
set_option maxHeartbeats 4000000 in
theorem rtalike_any (B C up : Nat) (hup : up < 2 ^ 64) (va vb : Value) (a b : List (Nat × Nat)) (w : World) (ha : Cs B w va a) (hb : Cs C w vb b) :
    Calls Try.prog 26 #[va, vb, .int .u64 (up : Nat)] w fun e w' => e = .returned (.bool (alB a b up)) ∧ Below w.heap.size w w' := by
  have HA := Lib.hid ha
  have HB := Lib.hid hb
  have HU := Lib.hid hup
  have hal : a.length ≤ 9223372036854775807 := by obtain ⟨_, _, _, _, _, h, _⟩ := ha; exact h
  obtain ⟨xa, ca, rfl⟩ := ha.is
  obtain ⟨xb, cb, rfl⟩ := hb.is
  clear ha hb hup
  by_cases hlen : a.length = b.length
  · have hlb : ((a.length : Int) != (b.length : Int)) = false := by rw [hlen]; simp
    have HE := Lib.hid hlen
    have HL := Lib.hid hal
    clear hlen hal
    go_enter Try.func26, Try.ntmps26
    go_wp2_with fail
    clear hlb
    go_loopw [7] (fun i wr => ∃ k : Nat, k ≤ a.length ∧ i = .int .i64 k ∧ (List.range k).all (fun j => leq a b j && beqU a b up j) = true ∧ Below w.heap.size w wr) (fun i _ => a.length - (intOf i).toNat)
    case atStart => exact ⟨0, by omega, rfl, rfl, Below.refl _ _⟩
    case round =>
      obtain ⟨k, hk, rfl, hall, hW⟩ := hrel
      have HW := Lib.hid hW
      have hL := HL.out
      by_cases hlt : k < a.length
      · have hltI : (k : Int) < (a.length : Int) := by omega
        have hltJ : (k : Int) < (b.length : Int) := by have := HE.out; omega
        obtain ⟨b1, o1, c1, e, _, d0, d1⟩ := Cs.at (HA.out.new hW) hlt
        injection e with e1 e2 e3
        subst e1 e3
        obtain ⟨b2, o2, c2, e, _, d2, d3⟩ := Cs.at (HB.out.new hW) (k := k) (by have := HE.out; omega)
        injection e with e4 e5 e6
        subst e4 e6
        have HG := Lib.hid (fun X => rbelow_any (cg a k).2 up (cg_ok HA.out.1 k).2 HU.out X)
        have HF := Lib.hid (And.intro hk (And.intro hall (And.intro hlt hL)))
        have HV := Lib.hid (show (leq a b k && beqU a b up k) = ((cg a k).2 == (cg b k).2 && (!sub (cg a k).2 up || (cg a k).1 == (cg b k).1)) from rfl)
        obtain ⟨x1, hx1⟩ : ∃ x, (cg a k).1 = x := ⟨_, rfl⟩
        obtain ⟨x2, hx2⟩ : ∃ x, (cg a k).2 = x := ⟨_, rfl⟩
        obtain ⟨y1, hy1⟩ : ∃ x, (cg b k).1 = x := ⟨_, rfl⟩
        obtain ⟨y2, hy2⟩ : ∃ x, (cg b k).2 = x := ⟨_, rfl⟩
        rw [hx1, hx2, hy1, hy2] at HV
        rw [hx2] at HG d1
        rw [hx1] at d0
        rw [hy1] at d2
        rw [hy2] at d3
        clear hx1 hx2 hy1 hy2 e2 e5 hk hall hlt hW
        by_cases h1 : x2 = y2
        · subst h1
          have n1 : ((x2 : Int) != (x2 : Int)) = false := by simp
          obtain ⟨t, ht⟩ : ∃ t, sub x2 up = t := ⟨_, rfl⟩
          rw [ht] at HG HV
          clear ht
          cases t with
          | false =>
            go_wp2_with fail
            go_quiet ((go_at_call 29; exact Calls.quiet_of_same ((HG.out _).mono fun _ _ ⟨h, k⟩ => ⟨h, k.symm⟩)))
            go_wp2_with fail
            go_round
            case rel => exact ⟨k + 1, by have := HF.out; omega, by have := HF.out; go_num, by rw [all_range_snoc, HF.out.2.1, HV.out]; simp, below_drewN HW.out _⟩
            case measure => have := HF.out; simp [intOf]; omega
          | true =>
            by_cases h2 : x1 = y1
            · subst h2
              have n2 : ((x1 : Int) != (x1 : Int)) = false := by simp
              go_wp2_with fail
              go_quiet ((go_at_call 29; exact Calls.quiet_of_same ((HG.out _).mono fun _ _ ⟨h, k⟩ => ⟨h, k.symm⟩)))
              go_wp2_with fail
              go_round
              case rel => exact ⟨k + 1, by have := HF.out; omega, by have := HF.out; go_num, by rw [all_range_snoc, HF.out.2.1, HV.out]; simp, below_drewN HW.out _⟩
              case measure => have := HF.out; simp [intOf]; omega
            · have n2 : ((x1 : Int) != (y1 : Int)) = true := by simp; omega
              have HN := Lib.hid (show alB a b up = false by unfold alB; rw [all_range_false _ HF.out.2.2.1 (by rw [HV.out]; simp [h2])]; simp)
              go_wp2_with fail
              go_quiet ((go_at_call 29; exact Calls.quiet_of_same ((HG.out _).mono fun _ _ ⟨h, k⟩ => ⟨h, k.symm⟩)))
              go_wp2_with fail
              go_ret
              rw [HN.out]
              exact ⟨rfl, below_drewN HW.out _⟩
        · have n1 : ((x2 : Int) != (y2 : Int)) = true := by simp; omega
          have HN := Lib.hid (show alB a b up = false by unfold alB; rw [all_range_false _ HF.out.2.2.1 (by rw [HV.out]; simp [h1])]; simp)
          go_wp2_with fail
          go_quiet (fail)
          go_wp2_with fail
          go_ret
          rw [HN.out]
          exact ⟨rfl, below_drewN HW.out _⟩
      · obtain rfl : k = a.length := by omega
        have HN := Lib.hid (show alB a b up = true by unfold alB; rw [hall, HE.out]; simp)
        clear hall hW
        go_wp2_with fail
        go_ret
        rw [HN.out]
        exact ⟨rfl, HW.out⟩
  · have hlb : ((a.length : Int) != (b.length : Int)) = true := by simp; omega
    have HE := Lib.hid (show alB a b up = false by unfold alB; simp [hlen])
    clear hlen hal
    go_enter Try.func26, Try.ntmps26
    go_wp2_with fail
    go_ret
    rw [HE.out]
    exact ⟨rfl, Below.refl _ _⟩
end Go.Proofs.Ytkhdjlahfbmkoaa
