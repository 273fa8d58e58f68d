/- power: Powers. -/
import Derived.Test.YtidpekcegocjfaaDoorEk
namespace Go.Proofs.YtidpekcegocjfaaDoor
open Go.RowKit Go.Shelf
attribute [local go_sem] ix0 ix1 ix2 ix3
attribute [local go_sem] Oper.semAt_some
attribute [local irreducible] lb
/-- How many powers are gone over. -/
def pwK (m : Int) : Nat := (min m 256).toNat
/-- Where it was left: of itself, or by the round. -/
def PLeft (K : Nat) (J Jx : List Nat → World → Prop) (q : List Nat) (k : Nat) (X : World) : Prop := (k = K ∧ J q X) ∨ (k < K ∧ Jx (q ++ [k]) X)
theorem pleft_abide (K : Nat) {J Jx : List Nat → World → Prop} {B : Nat} (hJ : Abide B J) (hJx : Abide B Jx) (q : List Nat) (k : Nat) : Abide B (fun (_ : List Nat) X => PLeft K J Jx q k X) := fun _ X Y row hs hg hr => by
  rcases hs with ⟨h1, h2⟩ | ⟨h1, h2⟩
  · exact .inl ⟨h1, hJ _ X Y row h2 hg hr⟩
  · exact .inr ⟨h1, hJx _ X Y row h2 hg hr⟩
set_option maxRecDepth 100000 in
set_option maxHeartbeats 4000000 in
theorem powers1_in (n : Nat) (hn : 6 ≤ n) (l A N n₀ a : Nat) (m : Int) (J Jx : List Nat → World → Prop) (w : World) (hn₀ : n₀ ≤ w.heap.size)
    (hA : Blk w A 24 (Wc a)) (hJ : Abide w.heap.size J) (hJx : Abide w.heap.size Jx) (hBN : ∀ pre X, J pre X → Blk X N 3 #[.int .i64 m])
    (hY : ∀ pre (x : Nat) X, (pre = List.range x ∧ x < pwK m) → J pre X → YieldAt Fence.wide 0 Tryd.prog l #[.int .i64 (x : Nat), W (a ^ x)] X fun e Y => (e = .returned (.bool true) ∧ J (pre ++ [x]) Y ∧ Kept w.heap.size X Y ∧ Below n₀ X Y) ∨ (e = .returned (.bool false) ∧ Jx (pre ++ [x]) Y ∧ Kept w.heap.size X Y))
    (h0 : J [] w) :
    CallsIn Fence.wide n Tryd.prog 23 #[.func (.yield l) #[] #[], .pointer (some ⟨A, 0, none⟩), .pointer (some ⟨N, 0, none⟩)] w fun e Y => (∃ v, e = .returned v) ∧
      ((∃ xs, xs = List.range (pwK m) ∧ J xs Y) ∨ (∃ pre, (∃ k, pre = List.range (k + 1) ∧ k < pwK m) ∧ Jx pre Y)) := by
  refine callsIn_of_wp_marks Tryd.func23 rfl trivial ?_ rfl
  simp only [Tryd.ntmps23, List.size_toArray, List.length_cons, List.length_nil, Nat.reduceAdd, Nat.reduceSub, Array.replicate_succ, Array.replicate_zero, List.push_toArray, List.append_toArray, List.nil_append, List.cons_append]
  have c0 := (cell_of_row _ _ 0 _ _ _ hA).trans (wc_get a 0 (by omega))
  have c1 := (cell_of_row _ _ 1 _ _ _ hA).trans (wc_get a 1 (by omega))
  have c2 := (cell_of_row _ _ 2 _ _ _ hA).trans (wc_get a 2 (by omega))
  have c3 := (cell_of_row _ _ 3 _ _ _ hA).trans (wc_get a 3 (by omega))
  have hlA := hA.lt
  have hbox : Blk ((w.alloc (.cells #[.func (.yield l) #[] #[]] 48)).alloc (.cells (Wc a) 24)) w.heap.size 48 #[.func (.yield l) #[] #[]] := (Blk.new w _ _).alloc _
  have hA2 : Blk ((w.alloc (.cells #[.func (.yield l) #[] #[]] 48)).alloc (.cells (Wc a) 24)) (w.heap.size + 1) 24 (Wc a) := Blk.newS w _ _ _
  have hj0 : J [] ((w.alloc (.cells #[.func (.yield l) #[] #[]] 48)).alloc (.cells (Wc a) 24)) := hJ.alloc _ (hJ.alloc _ h0)
  have hW : Below w.heap.size w ((w.alloc (.cells #[.func (.yield l) #[] #[]] 48)).alloc (.cells (Wc a) 24)) := balloc (balloc (Below.refl _ _) _) _
  have hsz : ((w.alloc (.cells #[.func (.yield l) #[] #[]] 48)).alloc (.cells (Wc a) 24)).heap.size = w.heap.size + 2 := by simp
  clear hA
  gi_wp2_with fail
  refine (wpIn_wide (n := n)).2 (wp_scope_straight ((wpIn_wide (n := n)).1 ?_))
  gi_wp2_with fail
  refine wpIn_label ?_
  gi_wp2_with fail
  refine ⟨trivial, fun _ => by omega, ?_⟩
  refine (callsIn_wide.2 (rising_any a _)).mono ?_
  clear c0 c1 c2 c3
  rintro e V ⟨rfl, rfl⟩
  rw [World.size_alloc]
  rename_i K hK
  refine hK _ _ ?_
  clear hK K
  gi_wp2_with fail
  obtain ⟨W0, hW0⟩ : ∃ W0, ((w.alloc (.cells #[.func (.yield l) #[] #[]] 48)).alloc (.cells (Wc a) 24)) = W0 := ⟨_, rfl⟩
  rw [hW0] at hA2 hj0 hW hsz hbox ⊢
  clear hW0 h0
  refine wpIn_rangeB (n := n) (by omega) (gf := 36) (lb := #[.pointer (some ⟨w.heap.size + 1, 0, none⟩)]) rfl (enters_of Tryd.func36 (by kernel_rfl) rfl)
    (rising_seq (n - 1) n₀ (w.heap.size + 1) a (pwK m) (by omega) (by unfold pwK; omega) W0 hA2) (Below.refl _ _) (by omega) (fun _ => rfl)
    (fun pre X => (pre.length ≤ pwK m ∧ J pre X) ∧ Blk X w.heap.size 48 #[.func (.yield l) #[] #[]])
    (fun c pre X => c = .exit 0 ∧ ∃ q, ∃ k, (pre = q ++ [k]) ∧ PLeft (pwK m) J Jx q k X)
    (((Abide.pure _ (fun pre : List Nat => pre.length ≤ pwK m)).and (hJ.mono (by omega))).and (Abide.blk (by omega) _ (fun _ => _)))
    (fun c => (Abide.pure _ (fun _ => c = .exit 0)).and (Abide.ex fun q => Abide.ex fun k => (Abide.pure _ (fun pre => pre = q ++ [k])).and (pleft_abide (pwK m) (hJ.mono (by omega)) (hJx.mono (by omega)) q k)))
    (fun pre X h _ => h.1.1)
    ⟨⟨by simp, hj0⟩, hbox⟩
    (fun x a' X => ∃ Bx, Blk X Bx 24 (Wc (a ^ x)) ∧ a' = { tmps := #[.func (.yield l) #[] #[], .pointer (some ⟨A, 0, none⟩), .pointer (some ⟨N, 0, none⟩), .pointer (some ⟨w.heap.size, 0, none⟩), .int .i64 (x : Nat), .pointer (some ⟨Bx, 0, none⟩), W a, .func (.func 36) #[] #[.pointer (some ⟨w.heap.size + 1, 0, none⟩)], .int .i64 (x : Nat), W (a ^ x), undef, undef, undef, undef, undef, undef, undef, undef, undef, undef], defers := [] })
    (fun x a' _ X Y row hs hg hr => by obtain ⟨Bx, h1, h2⟩ := hs; exact ⟨Bx, blk_cells h1 hg (fun r e => (hr r e).2), h2⟩)
    ?assign ?body ?done ?stop
  case assign =>
    rintro l2 pre x X K _ hi hK
    have hXs : w.heap.size < X.heap.size := hi.2.lt
    gi_wp2
    exact hK _ _ (Kept.alloc _ _ _) ((Below.refl n₀ X).alloc (by omega) _) ⟨⟨hi.1.1, hJ.alloc _ hi.1.2⟩, hi.2.alloc _⟩ ⟨X.heap.size, Blk.new X _ _, rfl⟩
  case body =>
    rintro l2 pre x a' X hl2 hgd _ ⟨⟨hle, hj⟩, hbx⟩ ⟨Bx, hBx, rfl⟩
    have hnb := hBN _ _ hj
    have hp : pre.length = x := by rw [hgd, List.length_range]
    obtain ⟨y, hyy⟩ : ∃ y, a ^ x = y := ⟨_, rfl⟩
    rw [hyy] at hBx
    have c0 := (cell_of_row _ _ 0 _ _ _ hBx).trans (wc_get y 0 (by omega))
    have c1 := (cell_of_row _ _ 1 _ _ _ hBx).trans (wc_get y 1 (by omega))
    have c2 := (cell_of_row _ _ 2 _ _ _ hBx).trans (wc_get y 2 (by omega))
    have c3 := (cell_of_row _ _ 3 _ _ _ hBx).trans (wc_get y 3 (by omega))
    have hbc := cell_of_row X _ 0 _ _ _ hbx
    have hnc := cell_of_row X _ 0 _ _ _ hnb
    have hXl := hbx.lt
    have HBX := Lib.hid hbx
    have HJ := Lib.hid hj
    clear hBx hbx hj hnb
    by_cases hxK : x < pwK m
    · have hm1 : (x : Int) < m := by unfold pwK at hxK; omega
      have hm2 : (x : Int) < 256 := by unfold pwK at hxK; omega
      obtain ⟨fn, tmps, assign, body, hy, hR⟩ := YieldAt.wide (m' := n - 1 - 1 - 1) (hY pre x _ ⟨hgd, hxK⟩ HJ.out)
      rw [hyy] at hy
      have hlen : (pre ++ [x]).length ≤ pwK m := by rw [List.length_append, hp, List.length_singleton]; omega
      gi_wp2_with fail
      all_goals
        refine ⟨fun _ => by omega, ?_⟩
        refine RoundIn.mono (round_at l2 hR) ?_
        rintro e Y (⟨rfl, hj1, hk1, hb1⟩ | ⟨rfl, hx1, hk1⟩)
        · have hbx : Blk Y w.heap.size 48 #[.func (.yield l) #[] #[]] := (hk1.2 _ (Nat.le_refl _) HBX.out.lt).trans HBX.out
          have HE := Lib.hid (And.intro (show Kept W0.heap.size X Y from hk1.mono (by omega)) (And.intro hb1 (And.intro (And.intro hlen hj1) hbx)))
          clear hbx hj1 hk1 hb1 hy hR hbc hnc c0 c1 c2 c3
          gi_wp2_with fail
          exact HE.out
        · have HE := Lib.hid (And.intro (show Kept W0.heap.size X Y from hk1.mono (by omega)) hx1)
          clear hx1 hk1 hy hR hbc hnc c0 c1 c2 c3
          gi_wp2_with fail
          exact ⟨HE.out.1, rfl, pre, x, rfl, .inr ⟨hxK, HE.out.2⟩⟩
    · by_cases hm3 : m ≤ (x : Int)
      · have hg : (decide (m ≤ (x : Int))) = true := by simpa using hm3
        have HF := Lib.hid (show x = pwK m from by omega)
        gi_wp2_with fail
        all_goals exact ⟨Kept.refl _ _, rfl, _, x, rfl, .inl ⟨HF.out, by first | exact HJ.out | (rw [← hgd]; exact HJ.out)⟩⟩
      · have hm2 : (256 : Int) ≤ x := by unfold pwK at hxK; omega
        have HF := Lib.hid (show x = pwK m from by omega)
        gi_wp2_with fail
        all_goals exact ⟨Kept.refl _ _, rfl, _, x, rfl, .inl ⟨HF.out, by first | exact HJ.out | (rw [← hgd]; exact HJ.out)⟩⟩
  case done =>
    rintro D xs X hD h
    exact h.elim
  case stop =>
    rintro D c pre X hD ⟨m', hm⟩ ⟨rfl, q, k, hq, hL⟩ hK
    gi_wp2
    have hJD : ∀ s, J s X → J s (X.putObj D (.deferred none)) := fun s h => hJ.put _ h (by omega)
    have hJxD : ∀ s, Jx s X → Jx s (X.putObj D (.deferred none)) := fun s h => hJx.put _ h (by omega)
    have hqk : q = List.range m' ∧ k = m' := by
      rw [hm, List.range_succ] at hq
      have h := List.append_inj' hq rfl
      exact ⟨h.1.symm, (List.cons.inj h.2).1.symm⟩
    obtain ⟨rfl, rfl⟩ := hqk
    unfold PLeft at hL
    rw [Exit.noGoto_normal]
    refine ⟨by simp, .inl ⟨_, _, rfl, run_takeDeferred hK, ?_⟩⟩
    refine ⟨_, results_none rfl _ _ _, ⟨_, rfl⟩, ?_⟩
    rcases hL with ⟨h1, h2⟩ | ⟨h1, h2⟩
    · exact .inl ⟨_, by rw [h1], hJD _ h2⟩
    · exact .inr ⟨_, ⟨k, rfl, h1⟩, by rw [List.range_succ]; exact hJxD _ h2⟩
/-- Powers goes over so many powers, 256 at most. -/
theorem powers_seq (n n₀ A N a : Nat) (m : Int) (hn : 6 ≤ n) (w : World) (hn₀ : n₀ ≤ w.heap.size) (hA : Blk w A 24 (Wc a)) :
    SeqW n Tryd.prog 23 #[.pointer (some ⟨A, 0, none⟩), .pointer (some ⟨N, 0, none⟩)] (fun x : Nat => #[.int .i64 (x : Nat), W (a ^ x)]) n₀ (fun _ X => Blk X N 3 #[.int .i64 m]) (fun pre x => pre = List.range x ∧ x < pwK m) (fun xs => xs = List.range (pwK m)) (fun pre => ∃ k, pre = List.range (k + 1) ∧ k < pwK m) w := fun l J Jx W hW hJ hJx hBd hY h0 =>
  powers1_in n hn l A N n₀ a m J Jx W (Nat.le_trans hn₀ hW.size) (hA.block_below hW) hJ hJx hBd hY h0
end Go.Proofs.YtidpekcegocjfaaDoor
