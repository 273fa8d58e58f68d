/- label: Members: what it hands back goes over the principals, rising. -/
import Derived.Test.YtenepkgjdoddgaaGreatDoorGe
namespace Go.Proofs.YtenepkgjdoddgaaGreatDoor
open Go.RowKit Go.Shelf
attribute [local go_sem] Oper.semAt_some
set_option maxRecDepth 100000 in
theorem members_any (a : Nat) (w : World) :
    Calls Tryz.prog 82 #[.int .u64 (a : Nat)] w fun e w' => e = .returned (.func (.func 114) #[] #[.pointer (some ⟨w.heap.size, 0, none⟩)]) ∧ w' = w.alloc (.cells #[.int .u64 (a : Nat)] 23) := by
  go_enter Tryz.func82, Tryz.ntmps82
  go_wp2
  go_ret
  exact ⟨rfl, rfl⟩

set_option maxRecDepth 100000 in
set_option maxHeartbeats 2000000 in
theorem members_seqM (n n₀ A a : Nat) (hn : 2 ≤ n) (ha : a < 2 ^ 64) (w : World) (hG : 1 < n₀) (hT : TZ w) (hA : Blk w A 23 #[.int .u64 (a : Nat)]) :
    SeqM n Tryz.prog 114 #[.pointer (some ⟨A, 0, none⟩)] (fun x : Nat => #[Value.int .i64 (x : Nat)]) n₀ (fun _ => False) (fun pre x => pre = eb a x ∧ a.testBit x = true ∧ x < 64) (fun xs => xs = eb a 64) (fun pre => ∃ x, x < 64 ∧ a.testBit x = true ∧ pre = eb a x ++ [x]) w := by
  intro l J Jx W hW hJ hJx hY h0
  have hTW := hT.keep hW
  have cA := cell_of_row _ _ 0 _ _ _ (hA.keep hW)
  clear hJ hJx hT hA hW
  refine callsIn_of_wp Tryz.func114 rfl trivial ?_ rfl
  simp only [Tryz.ntmps114, List.size_toArray, List.length_cons, List.length_nil, Nat.reduceAdd, Nat.reduceSub, Array.replicate_succ, Array.replicate_zero, List.push_toArray, List.append_toArray, List.nil_append, List.cons_append]
  have HX := Lib.hid (And.intro h0 hTW)
  clear h0 hTW
  gi_wp2
  gi_loopw [3] (fun p wr => ∃ s, s ≤ 64 ∧ p = .int .u64 ((a / 2 ^ s * 2 ^ s : Nat) : Int) ∧ J (eb a s) wr ∧ TZ wr) (fun p _ => (intOf p).toNat)
  case atStart => exact ⟨0, by omega, by simp, HX.out.1, HX.out.2⟩
  case round =>
    clear HX cA
    obtain ⟨s, hs, rfl, hj, htz⟩ := hrel
    by_cases h0 : a / 2 ^ s * 2 ^ s = 0
    · have hend := tz_end a s h0
      have he : eb a 64 = eb a s := by
        rw [show 64 = s + (64 - s) by omega]
        exact eb_skip a s _ (fun j h1 h2 => hend j h1)
      have hE := Lib.hid (show J (eb a 64) wr by rw [he]; exact hj)
      clear hend he hj htz hY
      rw [h0, show ((0 : Nat) : Int) = 0 from rfl]
      clear h0
      gi_wp2_with fail
      refine ⟨trivial, ?_⟩
      gi_wp2_with fail
      refine ⟨fun _ h => (nomatch h), ?_⟩
      gi_wp2_with fail
      go_end0
      exact ⟨⟨_, rfl⟩, .inl ⟨_, rfl, hE.out⟩⟩
    · obtain ⟨c, hc, hsc, hc64, hbit, hno, hand⟩ := tz_state a s ha h0
      have hp64 : a / 2 ^ s * 2 ^ s < 18446744073709551616 := Nat.lt_of_le_of_lt (Nat.div_mul_le_self _ _) ha
      have hless : a / 2 ^ (c + 1) * 2 ^ (c + 1) < a / 2 ^ s * 2 ^ s := by
        rw [← hand]; exact Nat.lt_of_le_of_lt Nat.and_le_right (by omega)
      have he : eb a s = eb a c := by
        obtain ⟨d, rfl⟩ : ∃ d, c = s + d := ⟨c - s, by omega⟩
        exact (eb_skip a s d (fun j h1 h2 => hno j h1 h2)).symm
      rw [he] at hj
      obtain ⟨fn, tmps, assign, body, hy, hR⟩ := YieldAt.wide (m' := n - 1) (hY (eb a c) c wr ⟨rfl, hbit, hc64⟩ hj)
      have hhit := Lib.hid (eb_hit a c hbit)
      have HTC := Lib.hid (tz_any (a / 2 ^ s * 2 ^ s) hp64 h0 wr htz)
      rw [hc] at HTC
      have HAND := Lib.hid hand
      have HLESS := Lib.hid hless
      have HAB := Lib.hid (And.intro hc64 hbit)
      have HTZ := Lib.hid htz
      clear hand hless hno he hbit hj hc htz hY hs hsc
      obtain ⟨p, hp⟩ : ∃ p, a / 2 ^ s * 2 ^ s = p := ⟨_, rfl⟩
      rw [hp] at HTC HAND HLESS hp64 h0 ⊢
      clear hp
      have g0 : ((p : Int) == 0) = false := by simp; omega
      have g0' : ((p : Int) != 0) = true := by simp; omega
      have g3 : IntKind.u64.wrap ((p : Int) - 1) = ((p - 1 : Nat) : Int) := by rw [IntWalk.u64_in _ (by omega)]; omega
      have g4 : bits .and .u64 (p : Int) ((p - 1 : Nat) : Int) = ((a / 2 ^ (c + 1) * 2 ^ (c + 1) : Nat) : Int) := by rw [bits_and_u64_nat _ _ hp64 (by omega), HAND.out]
      clear h0
      gi_wp2_with fail
      refine ⟨trivial, fun _ => by omega, ?_⟩
      refine (callsIn_wide.2 HTC.out).mono ?_
      rintro e wk ⟨rfl, rfl⟩
      gi_wp2_with fail
      refine ⟨fun _ => by omega, hR.mono ?_⟩
      rintro e W3 (⟨rfl, hJ3, hk3, hb3⟩ | ⟨rfl, hJx3, _⟩)
      · have hT3 := Lib.hid (HTZ.out.below hG hb3)
        have hJ4 := Lib.hid hJ3
        clear hJ3 hk3 hb3
        gi_wp2
        go_roundw
        case rel => exact ⟨c + 1, HAB.out.1, rfl, by rw [hhit.out]; exact hJ4.out, hT3.out⟩
        case measure =>
          show ((a / 2 ^ (c + 1) * 2 ^ (c + 1) : Nat) : Int).toNat < ((p : Nat) : Int).toNat
          rw [Int.toNat_natCast, Int.toNat_natCast]
          exact HLESS.out
      · have hJ4 := Lib.hid hJx3
        clear hJx3
        gi_wp2
        go_end0
        exact ⟨⟨_, rfl⟩, .inr ⟨_, ⟨c, HAB.out.1, HAB.out.2, rfl⟩, hJ4.out⟩⟩

set_option maxRecDepth 100000 in
set_option maxHeartbeats 2000000 in
theorem members_seqB (n n₀ A a : Nat) (hn : 2 ≤ n) (ha : a < 2 ^ 64) (w : World) (hG : 1 < n₀) (hT : TZ w) (hA : Blk w A 23 #[.int .u64 (a : Nat)]) :
    SeqB n Tryz.prog 114 #[.pointer (some ⟨A, 0, none⟩)] (fun x : Nat => #[Value.int .i64 (x : Nat)]) n₀ (fun _ => True) (fun pre x => pre = eb a x ∧ a.testBit x = true ∧ x < 64) (fun xs => xs = eb a 64) (fun pre => ∃ x, x < 64 ∧ a.testBit x = true ∧ pre = eb a x ++ [x]) w := by
  intro l J Jx W hW hJ hJx _ hY h0
  have hTW := hT.keep hW
  have cA := cell_of_row _ _ 0 _ _ _ (hA.keep hW)
  clear hJ hJx hT hA hW
  refine callsIn_of_wp Tryz.func114 rfl trivial ?_ rfl
  simp only [Tryz.ntmps114, List.size_toArray, List.length_cons, List.length_nil, Nat.reduceAdd, Nat.reduceSub, Array.replicate_succ, Array.replicate_zero, List.push_toArray, List.append_toArray, List.nil_append, List.cons_append]
  have HX := Lib.hid (And.intro h0 hTW)
  clear h0 hTW
  gi_wp2
  gi_loopw [3] (fun p wr => ∃ s, s ≤ 64 ∧ p = .int .u64 ((a / 2 ^ s * 2 ^ s : Nat) : Int) ∧ J (eb a s) wr ∧ TZ wr) (fun p _ => (intOf p).toNat)
  case atStart => exact ⟨0, by omega, by simp, HX.out.1, HX.out.2⟩
  case round =>
    clear HX cA
    obtain ⟨s, hs, rfl, hj, htz⟩ := hrel
    by_cases h0 : a / 2 ^ s * 2 ^ s = 0
    · have hend := tz_end a s h0
      have he : eb a 64 = eb a s := by
        rw [show 64 = s + (64 - s) by omega]
        exact eb_skip a s _ (fun j h1 h2 => hend j h1)
      have hE := Lib.hid (show J (eb a 64) wr by rw [he]; exact hj)
      clear hend he hj htz hY
      rw [h0, show ((0 : Nat) : Int) = 0 from rfl]
      clear h0
      gi_wp2_with fail
      refine ⟨trivial, ?_⟩
      gi_wp2_with fail
      refine ⟨fun _ h => (nomatch h), ?_⟩
      gi_wp2_with fail
      go_end0
      exact ⟨⟨_, rfl⟩, .inl ⟨_, rfl, hE.out⟩⟩
    · obtain ⟨c, hc, hsc, hc64, hbit, hno, hand⟩ := tz_state a s ha h0
      have hp64 : a / 2 ^ s * 2 ^ s < 18446744073709551616 := Nat.lt_of_le_of_lt (Nat.div_mul_le_self _ _) ha
      have hless : a / 2 ^ (c + 1) * 2 ^ (c + 1) < a / 2 ^ s * 2 ^ s := by
        rw [← hand]; exact Nat.lt_of_le_of_lt Nat.and_le_right (by omega)
      have he : eb a s = eb a c := by
        obtain ⟨d, rfl⟩ : ∃ d, c = s + d := ⟨c - s, by omega⟩
        exact (eb_skip a s d (fun j h1 h2 => hno j h1 h2)).symm
      rw [he] at hj
      obtain ⟨fn, tmps, assign, body, hy, hR⟩ := YieldAt.wide (m' := n - 1) (hY (eb a c) c wr ⟨rfl, hbit, hc64⟩ hj)
      have hhit := Lib.hid (eb_hit a c hbit)
      have HTC := Lib.hid (tz_any (a / 2 ^ s * 2 ^ s) hp64 h0 wr htz)
      rw [hc] at HTC
      have HAND := Lib.hid hand
      have HLESS := Lib.hid hless
      have HAB := Lib.hid (And.intro hc64 hbit)
      have HTZ := Lib.hid htz
      clear hand hless hno he hbit hj hc htz hY hs hsc
      obtain ⟨p, hp⟩ : ∃ p, a / 2 ^ s * 2 ^ s = p := ⟨_, rfl⟩
      rw [hp] at HTC HAND HLESS hp64 h0 ⊢
      clear hp
      have g0 : ((p : Int) == 0) = false := by simp; omega
      have g0' : ((p : Int) != 0) = true := by simp; omega
      have g3 : IntKind.u64.wrap ((p : Int) - 1) = ((p - 1 : Nat) : Int) := by rw [IntWalk.u64_in _ (by omega)]; omega
      have g4 : bits .and .u64 (p : Int) ((p - 1 : Nat) : Int) = ((a / 2 ^ (c + 1) * 2 ^ (c + 1) : Nat) : Int) := by rw [bits_and_u64_nat _ _ hp64 (by omega), HAND.out]
      clear h0
      gi_wp2_with fail
      refine ⟨trivial, fun _ => by omega, ?_⟩
      refine (callsIn_wide.2 HTC.out).mono ?_
      rintro e wk ⟨rfl, rfl⟩
      gi_wp2_with fail
      refine ⟨fun _ => by omega, hR.mono ?_⟩
      rintro e W3 (⟨rfl, hJ3, hk3, hb3⟩ | ⟨rfl, hJx3, _⟩)
      · have hT3 := Lib.hid (HTZ.out.below hG hb3)
        have hJ4 := Lib.hid hJ3
        clear hJ3 hk3 hb3
        gi_wp2
        go_roundw
        case rel => exact ⟨c + 1, HAB.out.1, rfl, by rw [hhit.out]; exact hJ4.out, hT3.out⟩
        case measure =>
          show ((a / 2 ^ (c + 1) * 2 ^ (c + 1) : Nat) : Int).toNat < ((p : Nat) : Int).toNat
          rw [Int.toNat_natCast, Int.toNat_natCast]
          exact HLESS.out
      · have hJ4 := Lib.hid hJx3
        clear hJx3
        gi_wp2
        go_end0
        exact ⟨⟨_, rfl⟩, .inr ⟨_, ⟨c, HAB.out.1, HAB.out.2, rfl⟩, hJ4.out⟩⟩
end Go.Proofs.YtenepkgjdoddgaaGreatDoor
