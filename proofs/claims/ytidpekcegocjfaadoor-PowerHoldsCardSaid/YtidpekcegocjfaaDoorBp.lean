/- bits: Len, Each. -/
import Derived.Test.YtidpekcegocjfaaDoorBo
namespace Go.Proofs.YtidpekcegocjfaaDoor
open Go.RowKit Go.Shelf
attribute [local go_sem] ix0 ix1 ix2 ix3
attribute [local go_sem] Oper.semAt_some
theorem each_any (a : Nat) (w : World) :
    Calls Tryd.prog 19 #[W a] w fun e w' => e = .returned (.func (.func 33) #[] #[.pointer (some ⟨w.heap.size, 0, none⟩)]) ∧ w' = w.alloc (.cells (Wc a) 24) := by
  go_enter Tryd.func19, Tryd.ntmps19
  go_wp2
  go_ret
  exact ⟨rfl, rfl⟩
theorem parts_any (a : Nat) (w : World) :
    Calls Tryd.prog 31 #[W a] w fun e w' => e = .returned (.func (.func 40) #[] #[.pointer (some ⟨w.heap.size, 0, none⟩)]) ∧ w' = w.alloc (.cells (Wc a) 24) := by
  go_enter Tryd.func31, Tryd.ntmps31
  go_wp2
  go_ret
  exact ⟨rfl, rfl⟩
/-- The bits up to the highest of the first k numbers. -/
def LenOf (a k : Nat) (l : Nat) : Prop := l ≤ 64 * k ∧ a % B64 ^ k < 2 ^ l ∧ (a % B64 ^ k = 0 ∧ l = 0 ∨ 2 ^ l ≤ 2 * (a % B64 ^ k))
theorem LenOf.zero (a : Nat) : LenOf a 0 0 := ⟨by omega, by simp [Nat.mod_one], .inl ⟨by simp [Nat.mod_one], rfl⟩⟩
theorem pow64 (k : Nat) : B64 ^ k = 2 ^ (64 * k) := by rw [B64_two, ← Nat.pow_mul]
theorem LenOf.same {a k l : Nat} (h : LenOf a k l) (hz : a / B64 ^ k % B64 = 0) : LenOf a (k + 1) l := by
  unfold LenOf at *
  rw [mod_succ', hz, Nat.mul_zero, Nat.add_zero]
  exact ⟨by omega, h.2⟩
theorem LenOf.next {a k x : Nat} (hz : a / B64 ^ k % B64 ≠ 0) (h1 : x ≤ 64) (h2 : a / B64 ^ k % B64 < 2 ^ x) (h3 : a / B64 ^ k % B64 = 0 ∧ x = 0 ∨ 2 ^ x ≤ 2 * (a / B64 ^ k % B64)) : LenOf a (k + 1) (64 * k + x) := by
  unfold LenOf
  rw [mod_succ']
  have hr := Nat.mod_lt a (pow_pos' k)
  have h3 := h3.resolve_left (fun h => hz h.1)
  generalize a / B64 ^ k % B64 = d at *
  generalize a % B64 ^ k = r at *
  rw [pow64] at *
  rw [Nat.pow_add]
  refine ⟨by omega, ?_, .inr ?_⟩
  · have : 2 ^ (64 * k) * (d + 1) ≤ 2 ^ (64 * k) * 2 ^ x := Nat.mul_le_mul_left _ h2
    rw [Nat.mul_succ] at this
    omega
  · have : 2 ^ (64 * k) * 2 ^ x ≤ 2 ^ (64 * k) * (2 * d) := Nat.mul_le_mul_left _ h3
    rw [Nat.mul_left_comm] at this
    omega

set_option maxRecDepth 100000 in
set_option maxHeartbeats 4000000 in
theorem len_any (a : Nat) (ha : a < MM) (w : World) :
    Calls Tryd.prog 18 #[W a] w fun e w' => e = .returned (.int .i64 (lenN a : Nat)) ∧ Below w.heap.size w w' := by
  have HAM := Lib.hid ha
  clear ha
  refine (callsIn_wide (n := 20)).1 ?_
  refine callsIn_of_wp_marks Tryd.func18 rfl trivial ?_ rfl
  simp only [Tryd.ntmps18, List.size_toArray, List.length_cons, List.length_nil, Nat.reduceAdd, Nat.reduceSub, Array.replicate_succ, Array.replicate_zero, List.push_toArray, List.append_toArray, List.nil_append, List.cons_append]
  refine (wpIn_wide (n := 20)).2 ?_
  go_wp2_with fail
  refine (parts_any a _).mono ?_
  rintro e V ⟨rfl, rfl⟩
  have bN : Blk (((w.alloc (.cells (Wc a) 24)).alloc (.cells #[.int .i64 0] 3)).alloc (.cells (Wc a) 24)) (w.heap.size + 1) 3 #[.int .i64 0] := (Blk.newS w _ _ _).alloc _
  have bP : Blk (((w.alloc (.cells (Wc a) 24)).alloc (.cells #[.int .i64 0] 3)).alloc (.cells (Wc a) 24)) (w.heap.size + 1 + 1) 24 (Wc a) := by
    have h := Blk.newS (w.alloc (.cells (Wc a) 24)) (.cells #[.int .i64 0] 3) 24 (Wc a)
    rwa [World.size_alloc] at h
  have hW : Below w.heap.size w (((w.alloc (.cells (Wc a) 24)).alloc (.cells #[.int .i64 0] 3)).alloc (.cells (Wc a) 24)) := balloc (balloc (balloc (Below.refl _ _) _) _) _
  have HX := Lib.hid (And.intro bN (And.intro bP hW))
  clear bN bP hW
  go_wp2_with fail
  obtain ⟨bN, bP, hW⟩ := HX.out
  clear HX
  obtain ⟨W0, hW0⟩ : ∃ W0, (((w.alloc (.cells (Wc a) 24)).alloc (.cells #[.int .i64 0] 3)).alloc (.cells (Wc a) 24)) = W0 := ⟨_, rfl⟩
  rw [hW0] at bN bP hW ⊢
  clear hW0
  refine (wpIn_wide (n := 20)).1 ?_
  refine wpIn_rangeB (n := 20) (by omega) (gf := 40) (lb := #[.pointer (some ⟨w.heap.size + 1 + 1, 0, none⟩)]) rfl (enters_of Tryd.func40 (by kernel_rfl) rfl)
    (parts_seq (20 - 1) w.heap.size (w.heap.size + 1 + 1) a (by omega) W0 bP) (Below.refl _ _) hW.size (fun _ => rfl)
    (fun pre X => (∃ l, (pre = List.range pre.length ∧ LenOf a pre.length l) ∧ Blk X (w.heap.size + 1) 3 #[.int .i64 (l : Nat)]) ∧ Below w.heap.size w X)
    (fun _ _ _ => False)
    ((Abide.ex fun l => (Abide.pure _ (fun pre : List Nat => pre = List.range pre.length ∧ LenOf a pre.length l)).and (Abide.blk bN.lt _ (fun _ => _))).and (Abide.below (Nat.le_refl _) hW.size))
    (fun _ _ _ _ _ hs _ _ => hs) (fun _ _ _ => trivial)
    ⟨⟨0, ⟨rfl, LenOf.zero a⟩, bN⟩, hW⟩
    (fun x a' _ => a' = { tmps := #[W a, .pointer (some ⟨w.heap.size, 0, none⟩), .int .i64 0, .pointer (some ⟨w.heap.size + 1, 0, none⟩), .int .i64 x, .int .u64 (lb a x), W a, .func (.func 40) #[] #[.pointer (some ⟨w.heap.size + 1 + 1, 0, none⟩)], .int .i64 x, .int .u64 (lb a x), undef, undef, undef, undef, undef, undef, undef, undef], defers := [] })
    (fun x a' _ _ _ _ hs _ _ => hs)
    ?assign ?body ?done ?stop
  case assign =>
    rintro l2 pre x X K _ hi hK
    gi_wp2
    exact hK _ _ (Kept.refl _ _) (Below.refl _ _) hi rfl
  case body =>
    rintro l2 pre x a' X hl2 ⟨hpre, hx4⟩ hlo ⟨⟨l, ⟨hp, hlen⟩, hbn⟩, hB⟩ rfl
    clear hlo
    have hpl : pre.length = x := by rw [hpre, List.length_range]
    have hpx : pre ++ [x] = List.range (pre ++ [x]).length := by rw [List.length_append, List.length_singleton, hpl, List.range_succ, hpre]
    have hlen1 : (pre ++ [x]).length = x + 1 := by rw [List.length_append, List.length_singleton, hpl]
    rw [hpl] at hlen
    have hlt := limb_lt a x
    rw [lb_nat]
    obtain ⟨d, hd⟩ : ∃ d, a / B64 ^ x % B64 = d := ⟨_, rfl⟩
    rw [hd] at hlt ⊢
    have HD := Lib.hid hd
    by_cases h0 : d = 0
    · have hE := Lib.hid (show Kept W0.heap.size X X ∧ Below w.heap.size X X ∧ (∃ l, (pre ++ [x] = List.range (pre ++ [x]).length ∧ LenOf a (pre ++ [x]).length l) ∧ Blk X (w.heap.size + 1) 3 #[.int .i64 (l : Nat)]) ∧ Below w.heap.size w X from
        ⟨Kept.refl _ _, Below.refl _ _, ⟨l, ⟨hpx, by rw [hlen1]; exact hlen.same (by rw [hd, h0])⟩, hbn⟩, hB⟩)
      clear hd hpx hlen1 hlen hbn hB hp hpl hpre hlt bN bP hW HD
      subst h0
      gi_wp2_with fail
      exact hE.out
    · have g0 : ((d : Int) == 0) = false := by simp; omega
      have g0' : ((d : Int) != 0) = true := by simp; omega
      have g1 : IntKind.i64.wrap ((x : Int) * 64) = x * 64 := IntWalk.i64_in _ (by omega)
      have HX := Lib.hid (And.intro hpx (And.intro hlen1 (And.intro hbn (And.intro hB (And.intro h0 (And.intro bN.lt hW.size))))))
      have hcn := cell_of_row X _ 0 _ _ _ hbn
      have hfn := frozen_of_row X _ 0 _ _ hbn
      clear hd hpx hlen1 hlen hbn hB hp hpl hpre bN bP hW h0
      gi_wp2_with fail
      refine ⟨trivial, ?_⟩
      refine (callsIn_wide.2 (lenx_any d hlt _)).mono ?_
      rintro e Y ⟨⟨l', rfl, h1, h2, h3⟩, rfl⟩
      have g2 : IntKind.i64.wrap ((x : Int) * 64 + l') = 64 * x + l' := by rw [IntWalk.i64_in _ (by omega)]; omega
      have HL := Lib.hid (And.intro h1 (And.intro h2 h3))
      clear h1 h2 h3
      gi_wp2_with fail
      obtain ⟨hpx, hlen1, hbn, hB, h0, hN, hW⟩ := HX.out
      have hS := heap_setCell_same X (w.heap.size + 1) 0 _ _ (.int .i64 (64 * (x : Int) + l')) hbn
      have hS2 : Blk (X.setCell ⟨w.heap.size + 1, 0, none⟩ (.int .i64 (64 * (x : Int) + l'))) (w.heap.size + 1) 3 #[.int .i64 ((64 * x + l' : Nat) : Int)] := by
        rw [show ((64 * x + l' : Nat) : Int) = 64 * (x : Int) + l' by omega]; exact hS
      refine ⟨Kept.set X (p := ⟨w.heap.size + 1, 0, none⟩) hN _, (Below.refl _ X).setCell (p := ⟨w.heap.size + 1, 0, none⟩) (by show _ ≤ _; dsimp only; omega) _, ⟨64 * x + l', ⟨hpx, ?_⟩, hS2⟩, hB.setCell (p := ⟨w.heap.size + 1, 0, none⟩) (by show _ ≤ _; dsimp only; omega) _⟩
      rw [hlen1]
      refine LenOf.next ?_ HL.out.1 ?_ ?_ <;> rw [HD.out]
      · exact h0
      · exact HL.out.2.1
      · exact HL.out.2.2
  case done =>
    rintro D xs X hD rfl ⟨⟨l, ⟨hp0, hlen⟩, hbn⟩, hB⟩ hK
    clear hp0
    rw [List.length_range] at hlen
    have hM : a % B64 ^ 4 = a := Nat.mod_eq_of_lt HAM.out
    have hl : lenN a = l := by
      obtain ⟨h1, h2, h3⟩ := hlen
      rw [hM] at h2 h3
      exact len_of a l HAM.out h2 h3 (by omega)
    have HLL := Lib.hid hl
    rename_i K1 hK1
    refine hK1 _ _ ?_
    have hWD : w.heap.size ≤ D := Nat.le_trans hW.size hD
    have hcn := cell_of_row X _ 0 _ _ _ hbn
    have HK := Lib.hid hK
    have HB := Lib.hid hB
    clear hK1 K1 bN bP hW hK hB hbn hM hl hlen
    go_wp2
    refine ⟨by simp, .inl ⟨_, _, rfl, run_takeDeferred HK.out, ?_⟩⟩
    exact ⟨_, results_tmp rfl _ _ _, by rw [HLL.out]; rfl, HB.out.trans (below_put _ _ hWD)⟩
  case stop =>
    rintro D c pre X _ _ h _
    exact h.elim
end Go.Proofs.YtidpekcegocjfaaDoor
