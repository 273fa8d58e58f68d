/- tag: the bytes that are known: the iterator. -/
import Derived.Test.YtkhdjlahfbmkoaaTgl
import Derived.Test.YtkhdjlahfbmkoaaXm
import Derived.RangeFuncNested
import Derived.RangeFuncBound
import Derived.RangeFuncCalls
import Derived.RangeFuncLeaves
import Derived.Shelf.Abstract
import Derived.OwnWalkIn
import Derived.TacticsInMore
import Derived.LoopNIn
import Derived.LoopIn
namespace Go.Proofs.Ytkhdjlahfbmkoaa
open Go.RowKit Go.Shelf

theorem enters_known : ∀ args w, (callFunc 59 args).run Try.prog w = .ok (.enter 59 args) w := enters_of Try.func59 (by kernel_rfl) rfl
/-- The places that are known among the first k. -/
def knK (l : List (Nat × Nat)) (up k : Nat) : List Nat := (List.range k).filter fun j => sub (cg l j).2 up
theorem knK_hit (l : List (Nat × Nat)) (up k : Nat) (h : sub (cg l k).2 up = true) : knK l up (k + 1) = knK l up k ++ [k] := by unfold knK; rw [List.range_succ, List.filter_append]; simp [h]
theorem knK_miss (l : List (Nat × Nat)) (up k : Nat) (h : sub (cg l k).2 up = false) : knK l up (k + 1) = knK l up k := by unfold knK; rw [List.range_succ, List.filter_append]; simp [h]
def noM (_ : Nat) : Prop := False
theorem tknown_any (x : Option Addr) (n c up : Nat) (w : World) : Calls Try.prog 47 #[.slice x n c, .int .u64 (up : Nat)] w fun e w' => e = .returned (.func (.func 59) #[] #[.pointer (some ⟨w.heap.size, 0, none⟩), .pointer (some ⟨w.heap.size + 1, 0, none⟩)]) ∧ w' = (w.alloc (.cells #[.slice x n c] 71)).alloc (.cells #[.int .u64 (up : Nat)] 27) := by
  have hmf : ∀ (fn : Fn) (first cap : Array Value) (w : World), (Instr.makeFunc fn first cap).run Try.prog w = .ok (.func fn first cap) w := fun _ _ _ _ => rfl
  go_enter Try.func47, Try.ntmps47
  go_wp2_with fail
  go_ret
  exact ⟨rfl, rfl⟩
/-- What the iterator reads. -/
def KnB (A1 A2 B : Nat) (v : Value) (up : Nat) (l : List (Nat × Nat)) (X : World) : Prop := (Blk X A1 71 #[v] ∧ Blk X A2 27 #[.int .u64 (up : Nat)]) ∧ Cs B X v l
set_option maxRecDepth 100000 in
set_option maxHeartbeats 4000000 in
theorem known1_in (n : Nat) (hn : 2 ≤ n) (L A1 A2 B n₀ up : Nat) (hup : up < 2 ^ 64) (v : Value) (l : List (Nat × Nat)) (J Jx : List Nat → World → Prop) (w : World) (hJ : StayM noM J)
    (hBd : ∀ pre X, J pre X → KnB A1 A2 B v up l X)
    (hY : ∀ pre (x : Nat) X, (pre = knK l up x ∧ x < l.length ∧ sub (cg l x).2 up = true) → J pre X → YieldAt Fence.wide 0 Try.prog L #[.int .i64 x, .int .u8 ((cg l x).1 : Nat)] X fun e Y => (e = .returned (.bool true) ∧ J (pre ++ [x]) Y ∧ KeptM noM X Y ∧ Below n₀ X Y) ∨ (e = .returned (.bool false) ∧ Jx (pre ++ [x]) Y ∧ KeptM noM X Y))
    (h0 : J [] w) :
    CallsIn Fence.wide n Try.prog 59 #[.func (.yield L) #[] #[], .pointer (some ⟨A1, 0, none⟩), .pointer (some ⟨A2, 0, none⟩)] w fun e Y => (∃ v, e = .returned v) ∧
      ((∃ xs, xs = knK l up l.length ∧ J xs Y) ∨ (∃ pre, (∃ k, pre = knK l up (k + 1) ∧ k < l.length ∧ sub (cg l k).2 up = true) ∧ Jx pre Y)) := by
  obtain ⟨x0, c0, rfl⟩ := (hBd _ _ h0).2.is
  have hl : l.length ≤ 9223372036854775807 := by obtain ⟨_, _, _, _, _, h, _⟩ := (hBd _ _ h0).2; exact h
  have hA1 := cell_of_row _ _ 0 _ _ _ (hBd _ _ h0).1.1
  refine callsIn_of_wp_marks Try.func59 rfl trivial ?_ rfl
  simp only [Try.ntmps59, List.size_toArray, List.length_cons, List.length_nil, Nat.reduceAdd, Nat.reduceSub, Array.replicate_succ, Array.replicate_zero, List.push_toArray, List.append_toArray, List.nil_append, List.cons_append]
  gi_wp2_with fail
  gi_loopw [8] (fun i wr => ∃ k : Nat, i = .int .i64 k ∧ k ≤ l.length ∧ J (knK l up k) wr) (fun i _ => l.length - (intOf i).toNat)
  case atStart => exact ⟨0, rfl, by omega, h0⟩
  case round =>
    obtain ⟨k, rfl, hk, hj⟩ := hrel
    clear hA1
    by_cases hlt : k < l.length
    · obtain ⟨⟨hb1, hb2⟩, hcs⟩ := hBd _ _ hj
      obtain ⟨b, o, c, e, hbX, d0, d1⟩ := Cs.at hcs hlt
      injection e with e1 e2 e3
      subst e1 e3
      have hok := cg_ok hcs.1 k
      have hltI : (k : Int) < (l.length : Int) := by omega
      have HZ := Lib.hid (fun X => below_any (cg l k).2 up hok.2 hup X)
      have HJN := Lib.hid (fun (X Y : World) (h : J (knK l up k) X) (hb : Below X.heap.size X Y) => hJ.new h hb)
      have hal := balloc (Below.refl wr.heap.size wr) (.cells (cA (cg l k).1 (cg l k).2) 53)
      have hNc := Blk.new wr 53 (cA (cg l k).1 (cg l k).2)
      have a2 : (wr.alloc (.cells (cA (cg l k).1 (cg l k).2) 53)).cell? ⟨A2, 0, none⟩ = some (.int .u64 (up : Nat)) := cell_of_row _ _ 0 _ _ _ (hb2.keep hal)
      have HP := Lib.hid (And.intro hj (And.intro hlt (And.intro hal (And.intro hNc hl))))
      have HYY := Lib.hid (hY (knK l up k) k)
      obtain ⟨t, ht⟩ : ∃ t, sub (cg l k).2 up = t := ⟨_, rfl⟩
      rw [ht] at HZ
      have HT := Lib.hid ht
      have HTT : Hid (sub (cg l k).2 up = t) := Lib.hid ht
      obtain ⟨p0, hp0⟩ : ∃ p0, cg l k = p0 := ⟨_, rfl⟩
      rw [hp0] at HT d0 d1 HZ HYY a2 HP
      clear hp0
      generalize hp1 : p0.1 = p1 at *
      generalize hp2 : p0.2 = p2 at *
      clear hj hlt hal hNc hb1 hb2 hcs hbX e2 hok hY h0 hBd hJ hk ht hp1 hp2
      cases t with
      | false =>
        gi_wp2_with (first | (refine ⟨trivial, fun _ => (by omega), ?_⟩; gi_at_call 50; refine (callsIn_wide.2 (HZ.out _)).mono ?_; rintro e w1 ⟨rfl, hw1⟩; have hb := HP.out.2.2.2.1.keep hw1; have e0 : w1.cell? ⟨wr.heap.size, 0, none⟩ = some (.int .u8 (p1 : Nat)) := cell_of_row _ _ 0 _ _ _ hb; have hj1 := HJN.out _ _ HP.out.1 (bstep HP.out.2.2.1 hw1); have HJ1 := Lib.hid hj1; clear hw1 hb hj1) | (with_reducible refine And.intro (fun f h => (by cases h)) ?_) | fail)
        exact ⟨⟨k + 1, by have := HP.out; go_num, by have := HP.out; omega, by rw [knK_miss l up k HTT.out]; exact HJ1.out⟩, by have := HP.out; simp [intOf]; omega⟩
      | true =>
        gi_wp2_with (first | (refine ⟨trivial, fun _ => (by omega), ?_⟩; gi_at_call 50; refine (callsIn_wide.2 (HZ.out _)).mono ?_; rintro e w1 ⟨rfl, hw1⟩; have hb := HP.out.2.2.2.1.keep hw1; have e0 : w1.cell? ⟨wr.heap.size, 0, none⟩ = some (.int .u8 (p1 : Nat)) := cell_of_row _ _ 0 _ _ _ hb; have hj1 := HJN.out _ _ HP.out.1 (bstep HP.out.2.2.1 hw1); have HJ1 := Lib.hid hj1; obtain ⟨fn, tmps, assign, body, hy, hR⟩ := YieldAt.wide (m' := n - 1) (HYY.out w1 ⟨rfl, HP.out.2.1, HT.out⟩ hj1); clear hw1 hb hj1) | fail)
        refine ⟨fun _ => by omega, hR.mono ?_⟩
        clear hR hy e0 a2 d0 d1
        rintro e Y (⟨rfl, hj, _, _⟩ | ⟨rfl, hjx, _⟩)
        · rw [← knK_hit l up k HTT.out] at hj
          have HJ := Lib.hid hj
          clear hj
          gi_wp2_with fail
          exact ⟨⟨k + 1, by have := HP.out; go_num, by have := HP.out; omega, HJ.out⟩, by have := HP.out; simp [intOf]; omega⟩
        · rw [← knK_hit l up k HTT.out] at hjx
          have HJ := Lib.hid hjx
          clear hjx
          gi_wp2_with fail
          exact ⟨_, results_none rfl _ _ _, ⟨_, rfl⟩, .inr ⟨_, ⟨k, rfl, HP.out.2.1, HTT.out⟩, HJ.out⟩⟩
    · obtain rfl : k = l.length := by omega
      have HJ := Lib.hid hj
      clear hBd hY h0 hj hk hlt hl hJ
      gi_wp2_with fail
      exact ⟨_, results_none rfl _ _ _, ⟨_, rfl⟩, .inl ⟨_, rfl, HJ.out⟩⟩
end Go.Proofs.Ytkhdjlahfbmkoaa
