/- bits: Shl, Shr, Sar. -/
import Derived.Test.YthjbiojbmjgkbaaDoorBh
namespace Go.Proofs.YthjbiojbmjgkbaaDoor
open Go.RowKit
attribute [local go_sem] ix0 ix1 ix2 ix3
theorem box4 (w : World) (o1 o2 o4 : Obj) (t : TypeId) (cs : Array Value) : Blk ((((w.alloc o1).alloc o2).alloc (.cells cs t)).alloc o4) (w.heap.size + 1 + 1) t cs := by
  have h := Blk.newS (w.alloc o1) o2 t cs
  rw [World.size_alloc] at h
  exact h.alloc _
theorem W_sg (b : Bool) : Value.agg #[.int .u64 (sgI b), .int .u64 (sgI b), .int .u64 (sgI b), .int .u64 (sgI b)] = W (if b then MM - 1 else 0) := by
  cases b
  · simp only [Bool.false_eq_true, if_false]; exact W_zero.symm
  · simp only [if_true]; exact W_all.symm
attribute [local irreducible] lb numI
set_option maxRecDepth 100000 in
set_option maxHeartbeats 2000000 in
theorem shl_any (n a : Nat) (hn : n < MM) (ha : a < MM) (w : World) :
    Calls Tryd.prog 18 #[W n, W a] w fun e w' => e = .returned (W (shlN n a)) ∧ Below w.heap.size w w' := by
  have R := Lib.hid (box4 w (.cells (Wc n) 25) (.cells (Wc a) 25) (.cells (Wc a) 61) 25 Zc)
  have HW := Lib.hid (balloc (balloc (balloc (balloc (Below.refl w.heap.size w) (.cells (Wc n) 25)) (.cells (Wc a) 25)) (.cells Zc 25)) (.cells (Wc a) 61))
  have hc : ∀ X, Calls Tryd.prog 53 #[Dv a (.func (.func 52) #[W a] #[]), W n, .int .i64 (-1)] X fun e w' => e = .returned (W (shlN n a)) ∧ Below X.heap.size X w' := fun X => by
    by_cases h : n < 256
    · obtain ⟨q, r, hw, hq, hr, hres⟩ := up_parts a n ha h
      skip
      exact moved_near a _ _ (fills_noughts a) n h (-1) q r hw (Or.inr rfl) hq hr _ hres X
    · refine (moved_far a _ _ (fills_noughts a) n h hn (-1) X).mono ?_
      rintro e w' ⟨rfl, hb⟩
      refine ⟨?_, hb⟩
      unfold shlN
      rw [if_neg h]
      rw [W_zero]
  have HC := Lib.hid hc
  clear hc hn ha
  go_enter Tryd.func18, Tryd.ntmps18
  go_wp2_with fail
  refine (HC.out _).mono ?_
  rintro e w2 ⟨rfl, h2⟩
  have HW2 := Lib.hid (bstep HW.out h2)
  obtain ⟨c0, c1, c2, c3, f0, f1, f2, f3⟩ := (R.out.keep h2).get4
  clear R HW h2 HC
  go_wp2
  exact bodyPost_ret (v := W (shlN n a)) (by simp [results, Tryd.results18, go_sem, c0, c1, c2, c3]) rfl ⟨rfl, step_world HW2.out (grown_set4 w2 (w.heap.size + 1 + 1) _ _ _ _) (Nat.le_refl _) (by omega)⟩

set_option maxRecDepth 100000 in
set_option maxHeartbeats 2000000 in
theorem shr_any (n a : Nat) (hn : n < MM) (ha : a < MM) (w : World) :
    Calls Tryd.prog 20 #[W n, W a] w fun e w' => e = .returned (W (shrN n a)) ∧ Below w.heap.size w w' := by
  have R := Lib.hid (box4 w (.cells (Wc n) 25) (.cells (Wc a) 25) (.cells (Wc a) 61) 25 Zc)
  have HW := Lib.hid (balloc (balloc (balloc (balloc (Below.refl w.heap.size w) (.cells (Wc n) 25)) (.cells (Wc a) 25)) (.cells Zc 25)) (.cells (Wc a) 61))
  have hc : ∀ X, Calls Tryd.prog 53 #[Dv a (.func (.func 52) #[W a] #[]), W n, .int .i64 1] X fun e w' => e = .returned (W (shrN n a)) ∧ Below X.heap.size X w' := fun X => by
    by_cases h : n < 256
    · obtain ⟨q, r, hw, hq, hr, hres⟩ := down_parts a n ha h false
      simp only [Bool.false_eq_true, if_false, Nat.mul_zero, Nat.add_zero, show sgI false = 0 from rfl, Nat.mod_eq_of_lt (Nat.lt_of_le_of_lt (Nat.div_le_self a (2 ^ n)) ha)] at hres
      have e : shrN n a = a / 2 ^ n := if_pos h
      rw [e]
      exact moved_near a _ _ (fills_noughts a) n h 1 q r hw (Or.inl rfl) hq hr _ hres X
    · refine (moved_far a _ _ (fills_noughts a) n h hn 1 X).mono ?_
      rintro e w' ⟨rfl, hb⟩
      refine ⟨?_, hb⟩
      unfold shrN
      rw [if_neg h]
      rw [W_zero]
  have HC := Lib.hid hc
  clear hc hn ha
  go_enter Tryd.func20, Tryd.ntmps20
  go_wp2_with fail
  refine (HC.out _).mono ?_
  rintro e w2 ⟨rfl, h2⟩
  have HW2 := Lib.hid (bstep HW.out h2)
  obtain ⟨c0, c1, c2, c3, f0, f1, f2, f3⟩ := (R.out.keep h2).get4
  clear R HW h2 HC
  go_wp2
  exact bodyPost_ret (v := W (shrN n a)) (by simp [results, Tryd.results20, go_sem, c0, c1, c2, c3]) rfl ⟨rfl, step_world HW2.out (grown_set4 w2 (w.heap.size + 1 + 1) _ _ _ _) (Nat.le_refl _) (by omega)⟩

set_option maxRecDepth 100000 in
set_option maxHeartbeats 2000000 in
theorem sar_any (n a : Nat) (hn : n < MM) (ha : a < MM) (w : World) :
    Calls Tryd.prog 22 #[W n, W a] w fun e w' => e = .returned (W (sarN n a)) ∧ Below w.heap.size w w' := by
  have R := Lib.hid (box4 w (.cells (Wc n) 25) (.cells (Wc a) 25) (.cells (Wc a) 61) 25 Zc)
  have HW := Lib.hid (balloc (balloc (balloc (balloc (Below.refl w.heap.size w) (.cells (Wc n) 25)) (.cells (Wc a) 25)) (.cells Zc 25)) (.cells (Wc a) 61))
  have hc : ∀ X, Calls Tryd.prog 53 #[Dv a (.func (.func 55) #[W a] #[]), W n, .int .i64 1] X fun e w' => e = .returned (W (sarN n a)) ∧ Below X.heap.size X w' := fun X => by
    by_cases h : n < 256
    · obtain ⟨q, r, hw, hq, hr, hres⟩ := down_parts a n ha h (ngN a)
      have e : sarN n a = (a + MM * (if ngN a then MM - 1 else 0)) / 2 ^ n % MM := if_pos h
      rw [e]
      exact moved_near a _ _ (fills_signs a) n h 1 q r hw (Or.inl rfl) hq hr _ hres X
    · refine (moved_far a _ _ (fills_signs a) n h hn 1 X).mono ?_
      rintro e w' ⟨rfl, hb⟩
      refine ⟨?_, hb⟩
      unfold sarN
      rw [if_neg h]
      rw [W_sg]; rfl
  have HC := Lib.hid hc
  clear hc hn ha
  go_enter Tryd.func22, Tryd.ntmps22
  go_wp2_with fail
  refine (HC.out _).mono ?_
  rintro e w2 ⟨rfl, h2⟩
  have HW2 := Lib.hid (bstep HW.out h2)
  obtain ⟨c0, c1, c2, c3, f0, f1, f2, f3⟩ := (R.out.keep h2).get4
  clear R HW h2 HC
  go_wp2
  exact bodyPost_ret (v := W (sarN n a)) (by simp [results, Tryd.results22, go_sem, c0, c1, c2, c3]) rfl ⟨rfl, step_world HW2.out (grown_set4 w2 (w.heap.size + 1 + 1) _ _ _ _) (Nat.le_refl _) (by omega)⟩
end Go.Proofs.YthjbiojbmjgkbaaDoor
