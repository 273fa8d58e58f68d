/- split: Steps: Euclid's way one by one, out of pairs. -/
import Derived.Test.YthdapmceafnhgaaTh

namespace Go.Proofs.Ythdapmceafnhgaa
open Go.RowKit Go.Shelf
attribute [local go_sem] ix0 ix1 ix2 ix3
attribute [local go_sem] Oper.semAt_some
/-- The words that come by twos, one by one. -/
def fl (pre : List Nat) : List Nat := pre.flatMap (fun k => [2 * k, 2 * k + 1])
theorem fl_snoc (pre : List Nat) (k : Nat) : fl (pre ++ [k]) = fl pre ++ [2 * k] ++ [2 * k + 1] := by unfold fl; simp
theorem fl_range : ∀ m, fl (List.range m) = List.range (2 * m)
  | 0 => rfl
  | m + 1 => by rw [List.range_succ, fl_snoc, fl_range m, show 2 * (m + 1) = 2 * m + 1 + 1 by omega, List.range_succ, List.range_succ]
/-- Where Euclid's way ends. -/
theorem eu_falls (a b : Nat) (hb : b < MM) : ∀ k, (∀ i, i ≤ k → eu a b (i + 1) ≠ 0) → eu a b (k + 1) + k ≤ b
  | 0, _ => Nat.le_refl _
  | k + 1, h => by
    have h1 := eu_falls a b hb k (fun i hi => h i (by omega))
    have h2 : eu a b (k + 2) < eu a b (k + 1) := by
      show mdN _ _ < _
      have h3 := h k (by omega)
      unfold mdN; rw [if_neg h3]; exact Nat.mod_lt _ (by omega)
    show eu a b (k + 2) + (k + 1) ≤ b
    omega
theorem eu_ends (a b : Nat) (hb : b < MM) : ∃ N, eu a b N = 0 ∧ (∀ i, i < N → eu a b i ≠ 0) ∧ N ≤ b + 2 := by
  obtain ⟨N, h1, h2⟩ := exists_least (p := fun k => eu a b k = 0) (by
    refine Classical.byContradiction fun h => ?_
    have h3 := eu_falls a b hb (b + 1) (fun i _ e => h ⟨i + 1, e⟩)
    omega)
  refine ⟨N, h1, fun i hi e => by have := h2 i e; omega, ?_⟩
  refine Classical.byContradiction fun h => ?_
  have h3 := eu_falls a b hb (b + 1) (fun i hi e => by have := h2 (i + 1) e; omega)
  omega
theorem blk_cells {X Y : World} {g : Nat} {t : TypeId} {cs : Array Value} {row : Option Nat} (h : Blk X g t cs) (hg : X.grownBy Y row) (hr : ∀ r, row = some r → ∃ o : Obj, X.heap[r]? = some o ∧ o.isCells = false) : Blk Y g t cs :=
  h.kept hg (fun e => by obtain ⟨o, ho, hc⟩ := hr g e.symm; rw [show X.heap[g]? = _ from h] at ho; cases ho; cases hc)
theorem round_at {F : Fence} {n : Nat} {P : Program} {l : Nat} {f : FuncId} {tmps : Array Value} {assign body : Code} {w : World} {R : Ending → World → Prop} (k : Nat) (h : RoundIn F n P l f tmps assign body w R) : RoundIn (F.inRound k) n P l f tmps assign body w R := h

/-- What the loop over pairs comes to. -/
def LeftAt (a b : Nat) (J Jx : List Nat → World → Prop) (q : List Nat) (k : Nat) (X : World) : Prop :=
  (eu a b (2 * k) = 0 ∧ J (fl q) X) ∨ (eu a b (2 * k) ≠ 0 ∧ Jx (fl q ++ [2 * k]) X) ∨ (eu a b (2 * k) ≠ 0 ∧ eu a b (2 * k + 1) = 0 ∧ J (fl q ++ [2 * k]) X) ∨ (eu a b (2 * k) ≠ 0 ∧ eu a b (2 * k + 1) ≠ 0 ∧ Jx (fl q ++ [2 * k] ++ [2 * k + 1]) X)

theorem leftAt_abide (a b : Nat) {J Jx : List Nat → World → Prop} {B : Nat} (hJ : Abide B J) (hJx : Abide B Jx) (q : List Nat) (k : Nat) : Abide B (fun (_ : List Nat) X => LeftAt a b J Jx q k X) := fun _ X Y row hs hg hr => by
  rcases hs with ⟨h1, h2⟩ | ⟨h1, h2⟩ | ⟨h1, h2, h3⟩ | ⟨h1, h2, h3⟩
  · exact .inl ⟨h1, hJ _ X Y row h2 hg hr⟩
  · exact .inr (.inl ⟨h1, hJx _ X Y row h2 hg hr⟩)
  · exact .inr (.inr (.inl ⟨h1, h2, hJ _ X Y row h3 hg hr⟩))
  · exact .inr (.inr (.inr ⟨h1, h2, hJx _ X Y row h3 hg hr⟩))
theorem ixp0 (x0 x1 x2 x3 x4 x5 x6 x7 : Value) (w : World) : (Instr.index 38 (.agg #[x0, x1, x2, x3, x4, x5, x6, x7]) (.int .i64 0)).run Try.prog w = .ok (.agg #[x0, x1, x2, x3]) w := by kernel_rfl
theorem ixp1 (x0 x1 x2 x3 x4 x5 x6 x7 : Value) (w : World) : (Instr.index 38 (.agg #[x0, x1, x2, x3, x4, x5, x6, x7]) (.int .i64 1)).run Try.prog w = .ok (.agg #[x4, x5, x6, x7]) w := by kernel_rfl
attribute [local go_sem] ixp0 ixp1
theorem eq_nought (x : Nat) (hx : x < MM) (w : World) : (binOp .eql 24 (W x) (.agg #[.int .u64 0, .int .u64 0, .int .u64 0, .int .u64 0])).run Try.prog w = .ok (.bool (x == 0)) w := by
  have h := eqW x 0 w
  rw [W_zero, Nat.mod_eq_of_lt hx, Nat.zero_mod] at h
  exact h
theorem steps_gd {a b x : Nat} {pre : List Nat} (hg : pre = List.range x) (hn : ∀ i, i ∈ fl pre → eu a b i ≠ 0) (h : eu a b (2 * x) ≠ 0) : fl pre = List.range (2 * x) ∧ ∀ i, i ≤ 2 * x → eu a b i ≠ 0 := by
  subst hg
  rw [fl_range] at hn ⊢
  refine ⟨rfl, fun i hi => ?_⟩
  by_cases e : i = 2 * x
  · rw [e]; exact h
  · exact hn i (List.mem_range.2 (by omega))
theorem steps_gd2 {a b x : Nat} {pre : List Nat} (hg : pre = List.range x) (hn : ∀ i, i ∈ fl pre → eu a b i ≠ 0) (h : eu a b (2 * x) ≠ 0) (h' : eu a b (2 * x + 1) ≠ 0) : fl pre ++ [2 * x] = List.range (2 * x + 1) ∧ ∀ i, i ≤ 2 * x + 1 → eu a b i ≠ 0 := by
  obtain ⟨h1, h2⟩ := steps_gd hg hn h
  refine ⟨by rw [h1, List.range_succ], fun i hi => ?_⟩
  by_cases e : i = 2 * x + 1
  · rw [e]; exact h'
  · exact h2 i (by omega)
attribute [local irreducible] lb mdN
set_option maxRecDepth 100000 in
set_option maxHeartbeats 4000000 in
theorem steps1_in (n : Nat) (hn : 6 ≤ n) (l A B n₀ a b : Nat) (ha : a < MM) (hb : b < MM) (J Jx : List Nat → World → Prop) (w : World) (hn₀ : n₀ ≤ w.heap.size)
    (hA : Blk w A 24 (Wc a)) (hB : Blk w B 24 (Wc b)) (hJ : Abide w.heap.size J) (hJx : Abide w.heap.size Jx)
    (hY : ∀ pre (x : Nat) X, (pre = List.range x ∧ ∀ i, i ≤ x → eu a b i ≠ 0) → J pre X → YieldAt Fence.wide 0 Try.prog l #[W (eu a b x)] X fun e Y => (e = .returned (.bool true) ∧ J (pre ++ [x]) Y ∧ Kept w.heap.size X Y ∧ Below n₀ X Y) ∨ (e = .returned (.bool false) ∧ Jx (pre ++ [x]) Y ∧ Kept w.heap.size X Y))
    (h0 : J [] w) :
    CallsIn Fence.wide n Try.prog 8 #[.func (.yield l) #[] #[], .pointer (some ⟨A, 0, none⟩), .pointer (some ⟨B, 0, none⟩)] w fun e Y => (∃ v, e = .returned v) ∧
      ((∃ xs, (∃ N, xs = List.range N ∧ eu a b N = 0 ∧ ∀ i, i < N → eu a b i ≠ 0) ∧ J xs Y) ∨ (∃ pre, (∃ m, pre = List.range (m + 1) ∧ ∀ i, i ≤ m → eu a b i ≠ 0) ∧ Jx pre Y)) := by
  refine callsIn_of_wp_marks Try.func8 rfl trivial ?_ rfl
  simp only [Try.ntmps8, List.size_toArray, List.length_cons, List.length_nil, Nat.reduceAdd, Nat.reduceSub, Array.replicate_succ, Array.replicate_zero, List.push_toArray, List.append_toArray, List.nil_append, List.cons_append]
  have a0 := (cell_of_row w _ 0 _ _ _ hA).trans (wc_get _ 0 (by omega))
  have a1 := (cell_of_row w _ 1 _ _ _ hA).trans (wc_get _ 1 (by omega))
  have a2 := (cell_of_row w _ 2 _ _ _ hA).trans (wc_get _ 2 (by omega))
  have a3 := (cell_of_row w _ 3 _ _ _ hA).trans (wc_get _ 3 (by omega))
  have b0 := (cell_of_row w _ 0 _ _ _ hB).trans (wc_get _ 0 (by omega))
  have b1 := (cell_of_row w _ 1 _ _ _ hB).trans (wc_get _ 1 (by omega))
  have b2 := (cell_of_row w _ 2 _ _ _ hB).trans (wc_get _ 2 (by omega))
  have b3 := (cell_of_row w _ 3 _ _ _ hB).trans (wc_get _ 3 (by omega))
  have hlA := hA.lt
  have hlB := hB.lt
  have hbox : Blk (((w.alloc (.cells #[.func (.yield l) #[] #[]] 34)).alloc (.cells (Wc a) 24)).alloc (.cells (Wc b) 24)) w.heap.size 34 #[.func (.yield l) #[] #[]] := ((Blk.new w _ _).alloc _).alloc _
  clear hA hB
  gi_wp2_with fail
  refine (wpIn_wide (n := n)).2 (wp_scope_straight ((wpIn_wide (n := n)).1 ?_))
  gi_wp2_with fail
  refine wpIn_label ?_
  gi_wp2_with fail
  refine ⟨trivial, fun _ => by omega, ?_⟩
  refine (callsIn_wide.2 (pairs_any a b _)).mono ?_
  clear a0 a1 a2 a3 b0 b1 b2 b3
  rintro e V ⟨rfl, rfl⟩
  have hA : Blk (((w.alloc (.cells #[.func (.yield l) #[] #[]] 34)).alloc (.cells (Wc a) 24)).alloc (.cells (Wc b) 24)) (w.heap.size + 1) 24 (Wc a) := (Blk.newS w _ _ _).alloc _
  have hB : Blk (((w.alloc (.cells #[.func (.yield l) #[] #[]] 34)).alloc (.cells (Wc a) 24)).alloc (.cells (Wc b) 24)) (w.heap.size + 1 + 1) 24 (Wc b) := by
    have h := Blk.newS (w.alloc (.cells #[.func (.yield l) #[] #[]] 34)) (.cells (Wc a) 24) 24 (Wc b)
    rwa [World.size_alloc] at h
  have hj0 : J [] (((w.alloc (.cells #[.func (.yield l) #[] #[]] 34)).alloc (.cells (Wc a) 24)).alloc (.cells (Wc b) 24)) := hJ.alloc _ (hJ.alloc _ (hJ.alloc _ h0))
  have hW : Below w.heap.size w (((w.alloc (.cells #[.func (.yield l) #[] #[]] 34)).alloc (.cells (Wc a) 24)).alloc (.cells (Wc b) 24)) := balloc (balloc (balloc (Below.refl _ _) _) _) _
  have hsz : (((w.alloc (.cells #[.func (.yield l) #[] #[]] 34)).alloc (.cells (Wc a) 24)).alloc (.cells (Wc b) 24)).heap.size = w.heap.size + 3 := by simp
  gi_wp2_with fail
  obtain ⟨W0, hW0⟩ : ∃ W0, ((w.alloc (.cells #[.func (.yield l) #[] #[]] 34)).alloc (.cells (Wc a) 24)).alloc (.cells (Wc b) 24) = W0 := ⟨_, rfl⟩
  rw [hW0] at hA hB hj0 hW hsz hbox ⊢
  clear hW0 h0
  obtain ⟨M, hM0, hM1, hM2⟩ := eu_ends a b hb
  refine wpIn_rangeB (n := n) (by omega) (gf := 22) (lb := #[.pointer (some ⟨w.heap.size + 1, 0, none⟩), .pointer (some ⟨w.heap.size + 1 + 1, 0, none⟩)]) rfl (enters_of Try.func22 (by kernel_rfl) rfl)
    (pairs_seq (n - 1) n₀ (w.heap.size + 1) (w.heap.size + 1 + 1) a b M (by omega) ha hb W0 hA hB) (Below.refl _ _) (by omega) (fun _ => rfl)
    (fun pre X => ((∀ i, i ∈ fl pre → eu a b i ≠ 0) ∧ J (fl pre) X) ∧ Blk X w.heap.size 34 #[.func (.yield l) #[] #[]])
    (fun c pre X => c = .exit 0 ∧ ∃ q, ∃ k, (pre = q ++ [k] ∧ ∀ i, i ∈ fl q → eu a b i ≠ 0) ∧ LeftAt a b J Jx q k X)
    (((Abide.pure _ _).and ((hJ.mono (by omega)).comp fl)).and (Abide.blk (by omega) _ (fun _ => _)))
    (fun c => (Abide.pure _ (fun _ => c = .exit 0)).and (Abide.ex fun q => Abide.ex fun k => (Abide.pure _ (fun pre => pre = q ++ [k] ∧ ∀ i, i ∈ fl q → eu a b i ≠ 0)).and (leftAt_abide a b (hJ.mono (by omega)) (hJx.mono (by omega)) q k)))
    (fun pre X h hp => by
      refine Classical.byContradiction fun hc => ?_
      refine h.1.1 M ?_ hM0
      rw [hp, fl_range]
      exact List.mem_range.2 (by omega))
    ⟨⟨fun i hi => (by cases hi), hj0⟩, hbox⟩
    (fun x a' X => ∃ Bx, Blk X Bx 38 (Pc (eu a b (2 * x)) (eu a b (2 * x + 1))) ∧ a' = { tmps := #[.func (.yield l) #[] #[], .pointer (some ⟨A, 0, none⟩), .pointer (some ⟨B, 0, none⟩), .pointer (some ⟨w.heap.size, 0, none⟩), .pointer (some ⟨Bx, 0, none⟩), undef, undef, W a, W b, .func (.func 22) #[] #[.pointer (some ⟨w.heap.size + 1, 0, none⟩), .pointer (some ⟨w.heap.size + 1 + 1, 0, none⟩)], .agg (Pc (eu a b (2 * x)) (eu a b (2 * x + 1))), undef, undef, undef, undef, undef, undef, undef, undef, undef, undef, undef, undef, undef, undef], defers := [] })
    (fun x a' _ X Y row hs hg hr => by obtain ⟨Bx, h1, h2⟩ := hs; exact ⟨Bx, blk_cells h1 hg (fun r e => (hr r e).2), h2⟩)
    ?assign ?body ?done ?stop
  case assign =>
    rintro l2 pre x X K _ hi hK
    have hXs : w.heap.size < X.heap.size := hi.2.lt
    gi_wp2
    exact hK _ _ (Kept.alloc _ _ _) ((Below.refl n₀ X).alloc (by omega) _) ⟨⟨hi.1.1, hJ.alloc _ hi.1.2⟩, hi.2.alloc _⟩ ⟨X.heap.size, Blk.new X _ _, rfl⟩
  case body =>
    rintro l2 pre x a' X hl2 hgd _ ⟨⟨hnz, hj⟩, hbx⟩ ⟨Bx, hBx, rfl⟩
    have c0 := (cell_of_row X _ 0 _ _ _ hBx).trans (show (Pc (eu a b (2 * x)) (eu a b (2 * x + 1)))[0]? = some (.int .u64 (lb (eu a b (2 * x)) 0)) from rfl)
    have c1 := (cell_of_row X _ 1 _ _ _ hBx).trans (show (Pc (eu a b (2 * x)) (eu a b (2 * x + 1)))[1]? = some (.int .u64 (lb (eu a b (2 * x)) 1)) from rfl)
    have c2 := (cell_of_row X _ 2 _ _ _ hBx).trans (show (Pc (eu a b (2 * x)) (eu a b (2 * x + 1)))[2]? = some (.int .u64 (lb (eu a b (2 * x)) 2)) from rfl)
    have c3 := (cell_of_row X _ 3 _ _ _ hBx).trans (show (Pc (eu a b (2 * x)) (eu a b (2 * x + 1)))[3]? = some (.int .u64 (lb (eu a b (2 * x)) 3)) from rfl)
    have c4 := (cell_of_row X _ 4 _ _ _ hBx).trans (show (Pc (eu a b (2 * x)) (eu a b (2 * x + 1)))[4]? = some (.int .u64 (lb (eu a b (2 * x + 1)) 0)) from rfl)
    have c5 := (cell_of_row X _ 5 _ _ _ hBx).trans (show (Pc (eu a b (2 * x)) (eu a b (2 * x + 1)))[5]? = some (.int .u64 (lb (eu a b (2 * x + 1)) 1)) from rfl)
    have c6 := (cell_of_row X _ 6 _ _ _ hBx).trans (show (Pc (eu a b (2 * x)) (eu a b (2 * x + 1)))[6]? = some (.int .u64 (lb (eu a b (2 * x + 1)) 2)) from rfl)
    have c7 := (cell_of_row X _ 7 _ _ _ hBx).trans (show (Pc (eu a b (2 * x)) (eu a b (2 * x + 1)))[7]? = some (.int .u64 (lb (eu a b (2 * x + 1)) 3)) from rfl)
    have hbc := cell_of_row X _ 0 _ _ _ hbx
    have hXl := hbx.lt
    have HBX := Lib.hid hbx
    have HNZ := Lib.hid hnz
    have HJ := Lib.hid hj
    clear hBx hbx hnz hj
    gi_wp2_with fail
    refine wpIn_loop_rounds 3 ?_
    rw [roundsIn_succ]
    clear c0 c1 c2 c3 c4 c5 c6 c7
    have hq := eq_nought _ (eu_lt a b ha hb (2 * x))
    by_cases hz : eu a b (2 * x) = 0
    · have hz' : (eu a b (2 * x) == 0) = true := by simpa using hz
      rw [hz'] at hq
      have HZ := Lib.hid hz
      clear hz hz'
      gi_wp2_with fail
      refine ⟨fun _ h => (by cases h), ?_⟩
      gi_wp2_with fail
      exact ⟨Kept.alloc _ _ _, rfl, pre, x, ⟨rfl, HNZ.out⟩, .inl ⟨HZ.out, hJ.alloc _ HJ.out⟩⟩
    · have hz' : (eu a b (2 * x) == 0) = false := by simpa using hz
      rw [hz'] at hq
      have HZ := Lib.hid hz
      clear hz hz'
      obtain ⟨fn, tmps, assign, body, hy, hR⟩ := YieldAt.wide (m' := n - 1 - 1 - 1) (hY (fl pre) (2 * x) _ (steps_gd hgd HNZ.out HZ.out) (hJ.alloc (.cells (Wc (eu a b (2 * x))) 24) HJ.out))
      gi_wp2_with fail
      refine ⟨fun _ => by omega, ?_⟩
      refine RoundIn.mono (round_at l2 hR) ?_
      have HBY := Lib.hid (HBX.out.alloc (.cells (Wc (eu a b (2 * x))) 24))
      clear hbc hq hy hR
      rintro e Y (⟨rfl, hj1, hk1, hb1⟩ | ⟨rfl, hx1, hk1⟩)
      · have hbx : Blk Y w.heap.size 34 #[.func (.yield l) #[] #[]] := (hk1.2 _ (Nat.le_refl _) HBY.out.lt).trans HBY.out
        have hbc := cell_of_row Y _ 0 _ _ _ hbx
        have hYl := hbx.lt
        have hK1 : Kept W0.heap.size X Y := (Kept.alloc _ _ _).trans (hk1.mono (by omega))
        have hB1 : Below n₀ X Y := ((Below.refl n₀ X).alloc (by omega) _).trans hb1
        have HBX2 := Lib.hid hbx
        have HJ2 := Lib.hid hj1
        have HK1 := Lib.hid hK1
        have HB1 := Lib.hid hB1
        clear hbx hj1 hk1 hb1 hK1 hB1 HBY HJ HBX
        gi_wp2_with fail
        rw [roundsIn_succ]
        have hq := eq_nought _ (eu_lt a b ha hb (2 * x + 1))
        by_cases hz : eu a b (2 * x + 1) = 0
        · have hz' : (eu a b (2 * x + 1) == 0) = true := by simpa using hz
          rw [hz'] at hq
          have HZ2 := Lib.hid hz
          clear hz hz'
          gi_wp2_with fail
          refine ⟨fun _ h => (by cases h), ?_⟩
          gi_wp2_with fail
          exact ⟨HK1.out.trans (Kept.alloc _ _ _), rfl, pre, x, ⟨rfl, HNZ.out⟩, .inr (.inr (.inl ⟨HZ.out, HZ2.out, hJ.alloc _ HJ2.out⟩))⟩
        · have hz' : (eu a b (2 * x + 1) == 0) = false := by simpa using hz
          rw [hz'] at hq
          have HZ2 := Lib.hid hz
          clear hz hz'
          obtain ⟨fn, tmps, assign, body, hy, hR⟩ := YieldAt.wide (m' := n - 1 - 1 - 1) (hY (fl pre ++ [2 * x]) (2 * x + 1) _ (steps_gd2 hgd HNZ.out HZ.out HZ2.out) (hJ.alloc (.cells (Wc (eu a b (2 * x + 1))) 24) HJ2.out))
          gi_wp2_with fail
          refine ⟨fun _ => by omega, ?_⟩
          refine RoundIn.mono (round_at l2 hR) ?_
          have HBY := Lib.hid (HBX2.out.alloc (.cells (Wc (eu a b (2 * x + 1))) 24))
          clear hbc hq hy hR
          rintro e Z (⟨rfl, hj1, hk1, hb1⟩ | ⟨rfl, hx1, hk1⟩)
          · have hbx : Blk Z w.heap.size 34 #[.func (.yield l) #[] #[]] := (hk1.2 _ (Nat.le_refl _) HBY.out.lt).trans HBY.out
            have HBX3 := Lib.hid hbx
            have HK2 := Lib.hid (HK1.out.trans ((Kept.alloc _ _ _).trans (hk1.mono (by omega))))
            have HB2 := Lib.hid (HB1.out.trans (((Below.refl n₀ Y).alloc (by omega) _).trans hb1))
            have HJ3 := Lib.hid hj1
            clear hbx hj1 hk1 hb1 HBY HBX2 HJ2 HK1 HB1
            gi_wp2_with fail
            rw [roundsIn_succ]
            gi_wp2_with fail
            refine ⟨HK2.out, HB2.out, ⟨fun i hi => ?_, by rw [fl_snoc]; exact HJ3.out⟩, HBX3.out⟩
            rw [fl_snoc] at hi
            simp only [List.mem_append, List.mem_singleton] at hi
            rcases hi with (hi | hi) | hi
            · exact HNZ.out i hi
            · rw [hi]; exact HZ.out
            · rw [hi]; exact HZ2.out
          · have HK2 := Lib.hid (HK1.out.trans ((Kept.alloc _ _ _).trans (hk1.mono (by omega))))
            have HX := Lib.hid hx1
            clear hx1 hk1 HBY HBX2 HJ2 HK1 HB1
            gi_wp2_with fail
            exact ⟨HK2.out, rfl, pre, x, ⟨rfl, HNZ.out⟩, .inr (.inr (.inr ⟨HZ.out, HZ2.out, HX.out⟩))⟩
      · have HK1 := Lib.hid ((Kept.alloc _ _ _).trans (hk1.mono (by omega)) : Kept W0.heap.size X Y)
        have HX := Lib.hid hx1
        clear hx1 hk1 HBY HBX HJ
        gi_wp2_with fail
        exact ⟨HK1.out, rfl, pre, x, ⟨rfl, HNZ.out⟩, .inr (.inl ⟨HZ.out, HX.out⟩)⟩
  case done =>
    rintro D xs X hD h
    exact h.elim
  case stop =>
    rintro D c pre X hD ⟨m, hm⟩ ⟨rfl, q, k, ⟨hq, hnz⟩, hL⟩ hK
    gi_wp2
    have hJD : ∀ s, J s X → J s (X.putObj D (.deferred none)) := fun s h => hJ.put _ h (by omega)
    have hJxD : ∀ s, Jx s X → Jx s (X.putObj D (.deferred none)) := fun s h => hJx.put _ h (by omega)
    have hqk : q = List.range m ∧ k = m := by
      rw [hm, List.range_succ] at hq
      have h := List.append_inj' hq rfl
      exact ⟨h.1.symm, (List.cons.inj h.2).1.symm⟩
    obtain ⟨rfl, rfl⟩ := hqk
    unfold LeftAt at hL
    rw [fl_range] at hL hnz
    have hnz' : ∀ i, i < 2 * k → eu a b i ≠ 0 := fun i hi => hnz i (List.mem_range.2 hi)
    rw [Exit.noGoto_normal]
    refine ⟨by simp, .inl ⟨_, _, rfl, run_takeDeferred hK, ?_⟩⟩
    refine ⟨_, results_none rfl _ _ _, ⟨_, rfl⟩, ?_⟩
    rcases hL with ⟨h1, h2⟩ | ⟨h1, h2⟩ | ⟨h1, h2, h3⟩ | ⟨h1, h2, h3⟩
    · exact .inl ⟨_, ⟨2 * k, rfl, h1, hnz'⟩, hJD _ h2⟩
    · refine .inr ⟨_, ⟨2 * k, rfl, fun i hi => ?_⟩, by rw [List.range_succ]; exact hJxD _ h2⟩
      by_cases e : i = 2 * k
      · rw [e]; exact h1
      · exact hnz' i (by omega)
    · refine .inl ⟨_, ⟨2 * k + 1, rfl, h2, fun i hi => ?_⟩, by rw [List.range_succ]; exact hJD _ h3⟩
      by_cases e : i = 2 * k
      · rw [e]; exact h1
      · exact hnz' i (by omega)
    · refine .inr ⟨_, ⟨2 * k + 1, rfl, fun i hi => ?_⟩, by rw [List.range_succ, List.range_succ]; exact hJxD _ h3⟩
      by_cases e : i = 2 * k
      · rw [e]; exact h1
      · by_cases e' : i = 2 * k + 1
        · rw [e']; exact h2
        · exact hnz' i (by omega)
/-- Steps goes over Euclid's way, up to the first that is nought. -/
theorem steps_seq (n n₀ A B a b : Nat) (hn : 6 ≤ n) (ha : a < MM) (hb : b < MM) (w : World) (hn₀ : n₀ ≤ w.heap.size) (hA : Blk w A 24 (Wc a)) (hB : Blk w B 24 (Wc b)) :
    SeqB n Try.prog 8 #[.pointer (some ⟨A, 0, none⟩), .pointer (some ⟨B, 0, none⟩)] (fun x : Nat => #[W (eu a b x)]) n₀ (fun _ => True) (fun pre x => pre = List.range x ∧ ∀ i, i ≤ x → eu a b i ≠ 0) (fun xs => ∃ N, xs = List.range N ∧ eu a b N = 0 ∧ ∀ i, i < N → eu a b i ≠ 0) (fun pre => ∃ m, pre = List.range (m + 1) ∧ ∀ i, i ≤ m → eu a b i ≠ 0) w := fun l J Jx W hW hJ hJx _ hY h0 =>
  steps1_in n hn l A B n₀ a b ha hb J Jx W (Nat.le_trans hn₀ hW.size) (hA.block_below hW) (hB.block_below hW) hJ hJx hY h0
end Go.Proofs.Ythdapmceafnhgaa
