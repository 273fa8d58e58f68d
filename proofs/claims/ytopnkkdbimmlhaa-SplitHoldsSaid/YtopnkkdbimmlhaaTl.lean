/- split's law: SplitHolds: the walk. -/
import Derived.Test.YtopnkkdbimmlhaaTk
import Derived.Deep.RegionHeld
import Derived.Deep.MidRow
namespace Go.Proofs.Ytopnkkdbimmlhaa
open Go.RowKit Go.Shelf
attribute [local go_sem] ix0 ix1 ix2 ix3

theorem sgn_pp (a b q r M k1 k2 k3 k4 : Int) (h : (b + k2 * M) * q + r = a + k1 * M) : (q + k3 * M) * b + (r + k4 * M) = a + (k3 * b + k4 + k1 - q * k2) * M := by grind
theorem sgn_np (a b q r M k1 k2 k3 k4 : Int) (h : (b + k2 * M) * q + r = -a + k1 * M) : (-q + k3 * M) * b + (-r + k4 * M) = a + (k3 * b + k4 - k1 + q * k2) * M := by grind
theorem sgn_pn (a b q r M k1 k2 k3 k4 : Int) (h : (-b + k2 * M) * q + r = a + k1 * M) : (-q + k3 * M) * b + (r + k4 * M) = a + (k3 * b + k4 + k1 - q * k2) * M := by grind
theorem sgn_nn (a b q r M k1 k2 k3 k4 : Int) (h : (-b + k2 * M) * q + r = -a + k1 * M) : (q + k3 * M) * b + (-r + k4 * M) = a + (k3 * b + k4 - k1 + q * k2) * M := by grind
theorem mod_of {m n : Nat} {k : Int} (h : (m : Int) = n + k * (MM : Int)) : m % MM = n % MM := by
  have e : (m : Int) % (MM : Int) = (n : Int) % (MM : Int) := by rw [h, Int.add_mul_emod_self_right]
  exact_mod_cast e
theorem tn_f (n : Nat) : ∃ k : Int, ((tnN n false : Nat) : Int) = (n : Int) + k * (MM : Int) := ⟨0, by simp [tnN]⟩
theorem tn_t (n : Nat) : ∃ k : Int, ((tnN n true : Nat) : Int) = -(n : Int) + k * (MM : Int) := by
  refine ⟨1 + ((n / MM : Nat) : Int), ?_⟩
  have h1 := Nat.div_add_mod n MM
  have h2 := Nat.mod_lt n MM_pos
  have h3 : (MM : Int) * ((n / MM : Nat) : Int) + ((n % MM : Nat) : Int) = (n : Int) := by exact_mod_cast h1
  have h4 : ((tnN n true : Nat) : Int) = (MM : Int) - ((n % MM : Nat) : Int) := by unfold tnN sb; rw [if_pos rfl]; omega
  rw [h4, Int.add_mul, Int.one_mul, Int.mul_comm _ (MM : Int)]
  omega
theorem tn_pos (b : Nat) (h : b ≠ 0) : tnN b (ngN b) ≠ 0 := by
  unfold tnN
  split
  · have := Nat.mod_lt b MM_pos
    unfold sb; omega
  · exact h
theorem signed_back (a b : Nat) (h : b ≠ 0) : (sdN a b * b + smN a b) % MM = a % MM := by
  have hy := tn_pos b h
  have hq := Nat.div_add_mod (tnN a (ngN a)) (tnN b (ngN b))
  have hr : mdN (tnN a (ngN a)) (tnN b (ngN b)) = tnN a (ngN a) % tnN b (ngN b) := by unfold mdN; rw [if_neg hy]
  unfold sdN smN
  rw [hr]
  clear hr hy h
  have hq' : ((tnN b (ngN b) : Nat) : Int) * ((tnN a (ngN a) / tnN b (ngN b) : Nat) : Int) + ((tnN a (ngN a) % tnN b (ngN b) : Nat) : Int) = ((tnN a (ngN a) : Nat) : Int) := by exact_mod_cast hq
  clear hq
  generalize tnN a (ngN a) / tnN b (ngN b) = q at *
  generalize tnN a (ngN a) % tnN b (ngN b) = r at *
  cases hA : ngN a <;> cases hB : ngN b <;> rw [hA, hB] at hq'
  · obtain ⟨k1, h1⟩ := tn_f a
    obtain ⟨k2, h2⟩ := tn_f b
    obtain ⟨k3, h3⟩ := tn_f q
    obtain ⟨k4, h4⟩ := tn_f r
    rw [h1, h2] at hq'
    refine mod_of (k := k3 * b + k4 + k1 - q * k2) ?_
    rw [Int.natCast_add, Int.natCast_mul]
    exact (by rw [show (!(false == false)) = false from rfl, h3, h4]; exact sgn_pp _ _ _ _ _ _ _ _ _ hq')
  · obtain ⟨k1, h1⟩ := tn_f a
    obtain ⟨k2, h2⟩ := tn_t b
    obtain ⟨k3, h3⟩ := tn_t q
    obtain ⟨k4, h4⟩ := tn_f r
    rw [h1, h2] at hq'
    refine mod_of (k := k3 * b + k4 + k1 - q * k2) ?_
    rw [Int.natCast_add, Int.natCast_mul]
    exact (by rw [show (!(false == true)) = true from rfl, h3, h4]; exact sgn_pn _ _ _ _ _ _ _ _ _ hq')
  · obtain ⟨k1, h1⟩ := tn_t a
    obtain ⟨k2, h2⟩ := tn_f b
    obtain ⟨k3, h3⟩ := tn_t q
    obtain ⟨k4, h4⟩ := tn_t r
    rw [h1, h2] at hq'
    refine mod_of (k := k3 * b + k4 - k1 + q * k2) ?_
    rw [Int.natCast_add, Int.natCast_mul]
    exact (by rw [show (!(true == false)) = true from rfl, h3, h4]; exact sgn_np _ _ _ _ _ _ _ _ _ hq')
  · obtain ⟨k1, h1⟩ := tn_t a
    obtain ⟨k2, h2⟩ := tn_t b
    obtain ⟨k3, h3⟩ := tn_f q
    obtain ⟨k4, h4⟩ := tn_t r
    rw [h1, h2] at hq'
    refine mod_of (k := k3 * b + k4 - k1 + q * k2) ?_
    rw [Int.natCast_add, Int.natCast_mul]
    exact (by rw [show (!(true == true)) = false from rfl, h3, h4]; exact sgn_nn _ _ _ _ _ _ _ _ _ hq')
theorem neqW (x y : Nat) (w : World) : (binOp .neq 24 (W x) (W y)).run Try.prog w = .ok (.bool (!(x % MM == y % MM))) w := by
  obtain ⟨i, hi⟩ := Option.isSome_iff_exists.1 info_u64
  have h := run_neq_ints (show Try.prog.underlying 24 = some (.array 4 22) by kernel_rfl) (k := .u64) (by kernel_rfl) hi (by kernel_rfl) (Wc x) (Wc y) (lb x) (lb y)
    (fun j hj => by match j, hj with | 0, _ | 1, _ | 2, _ | 3, _ => exact ⟨rfl, rfl⟩) w
  rw [h]
  congr 3
  rw [Bool.eq_iff_iff]
  simp only [List.all_eq_true, List.mem_range, beq_iff_eq]
  rw [← lb_eq_iff]
  exact ⟨fun h => ⟨h 0 (by omega), h 1 (by omega), h 2 (by omega), h 3 (by omega)⟩, fun h j hj => by match j, hj with | 0, _ => exact h.1 | 1, _ => exact h.2.1 | 2, _ => exact h.2.2.1 | 3, _ => exact h.2.2.2⟩
attribute [local irreducible] lb mdN sdN smN

set_option maxRecDepth 100000 in
set_option maxHeartbeats 8000000 in
theorem holds_walk (a b : Nat) (ha : a < MM) (hb : b < MM) (w : World) :
    Calls Try.prog 6 #[W a, W b] w fun e w' => e = .returned (.bool true) ∧ Below w.heap.size w w' := by
  have hi : (Try.prog.info? 24).map (·.size) = some (Wc 0).size := by kernel_rfl
  have HI := Lib.hid hi
  have HA := Lib.hid ha
  have HB := Lib.hid hb
  clear hi ha hb
  go_enter Try.func6, Try.ntmps6
  go_upto_region 1 with fail
  rename_i K hK
  have A : Blk ((w.alloc (.cells (Wc a) 24)).alloc (.cells (Wc b) 24)) w.heap.size 24 (Wc a) := (Blk.new _ _ _).alloc _
  have B : Blk ((w.alloc (.cells (Wc a) 24)).alloc (.cells (Wc b) 24)) (w.heap.size + 1) 24 (Wc b) := Blk.newS w _ _ _
  have hW : Below w.heap.size w ((w.alloc (.cells (Wc a) 24)).alloc (.cells (Wc b) 24)) := balloc (balloc (Below.refl _ _) _) _
  obtain ⟨W0, hW0⟩ : ∃ W0, (w.alloc (.cells (Wc a) 24)).alloc (.cells (Wc b) 24) = W0 := ⟨_, rfl⟩
  rw [hW0] at A B hW ⊢
  clear hW0
  have key : ∀ (g1 g2 : Nat) (X : World), W0.heap.size ≤ g1 → W0.heap.size ≤ g2 → Blk X g1 24 (Wc (a / b)) → Blk X g2 24 (Wc (mdN a b)) → Below W0.heap.size W0 X →
      K { tmps := #[W a, W b, .pointer (some ⟨w.heap.size, 0, none⟩), .pointer (some ⟨w.heap.size + 1, 0, none⟩), .bool false, .pointer (some ⟨g1, 0, none⟩), .pointer (some ⟨g2, 0, none⟩), W a, W b, W (a / b), W a, W b, W (mdN a b), undef, undef, undef, undef, undef, undef, undef, undef, undef, undef, undef, undef, undef, undef, undef, undef, undef, undef, undef, undef, undef, undef, undef, undef, undef, undef, undef, undef, undef, undef, undef, undef, undef, undef, undef, undef, undef, undef, undef, undef, undef, undef, undef, undef, undef, undef, undef, undef, undef, undef, undef, undef, undef, undef, undef, undef, undef], defers := [] } X := by
    intro g1 g2 X hg1 hg2 Q R hX
    refine hK _ _ ?_
    clear hK K
    replace A := A.block_below hX
    replace B := B.block_below hX
    have hWX := bstep hW hX
    have cA0 : ∀ w', Below X.heap.size X w' → w'.cell? ⟨w.heap.size, 0, none⟩ = some (.int .u64 (lb (a) 0)) := fun w' h => (cell_of_row _ _ 0 _ _ _ (A.block_below h)).trans rfl
    have cA1 : ∀ w', Below X.heap.size X w' → w'.cell? ⟨w.heap.size, 1, none⟩ = some (.int .u64 (lb (a) 1)) := fun w' h => (cell_of_row _ _ 1 _ _ _ (A.block_below h)).trans rfl
    have cA2 : ∀ w', Below X.heap.size X w' → w'.cell? ⟨w.heap.size, 2, none⟩ = some (.int .u64 (lb (a) 2)) := fun w' h => (cell_of_row _ _ 2 _ _ _ (A.block_below h)).trans rfl
    have cA3 : ∀ w', Below X.heap.size X w' → w'.cell? ⟨w.heap.size, 3, none⟩ = some (.int .u64 (lb (a) 3)) := fun w' h => (cell_of_row _ _ 3 _ _ _ (A.block_below h)).trans rfl
    have cB0 : ∀ w', Below X.heap.size X w' → w'.cell? ⟨w.heap.size + 1, 0, none⟩ = some (.int .u64 (lb (b) 0)) := fun w' h => (cell_of_row _ _ 0 _ _ _ (B.block_below h)).trans rfl
    have cB1 : ∀ w', Below X.heap.size X w' → w'.cell? ⟨w.heap.size + 1, 1, none⟩ = some (.int .u64 (lb (b) 1)) := fun w' h => (cell_of_row _ _ 1 _ _ _ (B.block_below h)).trans rfl
    have cB2 : ∀ w', Below X.heap.size X w' → w'.cell? ⟨w.heap.size + 1, 2, none⟩ = some (.int .u64 (lb (b) 2)) := fun w' h => (cell_of_row _ _ 2 _ _ _ (B.block_below h)).trans rfl
    have cB3 : ∀ w', Below X.heap.size X w' → w'.cell? ⟨w.heap.size + 1, 3, none⟩ = some (.int .u64 (lb (b) 3)) := fun w' h => (cell_of_row _ _ 3 _ _ _ (B.block_below h)).trans rfl
    have cQ0 : ∀ w', Below X.heap.size X w' → w'.cell? ⟨g1, 0, none⟩ = some (.int .u64 (lb (a / b) 0)) := fun w' h => (cell_of_row _ _ 0 _ _ _ (Q.block_below h)).trans rfl
    have cQ1 : ∀ w', Below X.heap.size X w' → w'.cell? ⟨g1, 1, none⟩ = some (.int .u64 (lb (a / b) 1)) := fun w' h => (cell_of_row _ _ 1 _ _ _ (Q.block_below h)).trans rfl
    have cQ2 : ∀ w', Below X.heap.size X w' → w'.cell? ⟨g1, 2, none⟩ = some (.int .u64 (lb (a / b) 2)) := fun w' h => (cell_of_row _ _ 2 _ _ _ (Q.block_below h)).trans rfl
    have cQ3 : ∀ w', Below X.heap.size X w' → w'.cell? ⟨g1, 3, none⟩ = some (.int .u64 (lb (a / b) 3)) := fun w' h => (cell_of_row _ _ 3 _ _ _ (Q.block_below h)).trans rfl
    have cR0 : ∀ w', Below X.heap.size X w' → w'.cell? ⟨g2, 0, none⟩ = some (.int .u64 (lb (mdN a b) 0)) := fun w' h => (cell_of_row _ _ 0 _ _ _ (R.block_below h)).trans rfl
    have cR1 : ∀ w', Below X.heap.size X w' → w'.cell? ⟨g2, 1, none⟩ = some (.int .u64 (lb (mdN a b) 1)) := fun w' h => (cell_of_row _ _ 1 _ _ _ (R.block_below h)).trans rfl
    have cR2 : ∀ w', Below X.heap.size X w' → w'.cell? ⟨g2, 2, none⟩ = some (.int .u64 (lb (mdN a b) 2)) := fun w' h => (cell_of_row _ _ 2 _ _ _ (R.block_below h)).trans rfl
    have cR3 : ∀ w', Below X.heap.size X w' → w'.cell? ⟨g2, 3, none⟩ = some (.int .u64 (lb (mdN a b) 3)) := fun w' h => (cell_of_row _ _ 3 _ _ _ (R.block_below h)).trans rfl
    have h0 : Below X.heap.size X X.drew := (Below.refl _ _).drew
    have HW := Lib.hid hWX
    clear A B Q R hW hX hWX
    have hneq : ∀ (x : Nat) w, (binOp .neq 24 (W x) (W x)).run Try.prog w = .ok (.bool false) w := fun x w => by
      rw [neqW]; simp
    have hmm : ∀ w, Calls Try.prog 22 #[W a, .agg #[.int .u64 1, .int .u64 0, .int .u64 0, .int .u64 0], W b] w fun e w' => e = .returned (W (mdN a b)) ∧ Below w.heap.size w w' := fun w => by
      have h := mulmod_any a 1 b HA.out (m_lt _ (by decide)) HB.out w
      rwa [Nat.mul_one, W_1] at h
    have ham : ∀ w, Calls Try.prog 20 #[W a, .agg #[.int .u64 0, .int .u64 0, .int .u64 0, .int .u64 0], W b] w fun e w' => e = .returned (W (mdN a b)) ∧ Below w.heap.size w w' := fun w => by
      have h := addmod_any a 0 b HA.out MM_pos HB.out w
      rwa [Nat.add_zero, W_zero] at h
    go_upto_region 2 with fail
    go_region_held3 (fun w' => Below X.heap.size X w') (first | assumption | exact rstep (by assumption) (by assumption))
      (first
        | (go_at_call 26; refine (rof_int _ _).mono ?_; rintro e wk ⟨rfl, hk⟩)
        | (go_at_call 22; refine (hmm _).mono ?_; rintro e wk ⟨rfl, hk⟩)
        | (go_at_call 20; refine (ham _).mono ?_; rintro e wk ⟨rfl, hk⟩))
    case _ =>
      have hX2 : Below X.heap.size X wk := by assumption
      clear hneq hmm ham
      have hq := eq_nought b HB.out
      by_cases hb0 : b = 0
      · have hb1 : (b == 0) = true := by simpa using hb0
        rw [hb1] at hq
        have hqb : ∀ w, (binOp .eql 24 (W (a / b)) (W b)).run Try.prog w = .ok (.bool true) w := fun w => by rw [eqW, hb0, Nat.div_zero]; simp
        have hrb : ∀ w, (binOp .eql 24 (W (mdN a b)) (W b)).run Try.prog w = .ok (.bool true) w := fun w => by
          have e : mdN a b = 0 := by unfold mdN; rw [if_pos hb0]
          rw [eqW, e, hb0]; simp
        clear hb0 hb1
        go_wp2_with (first | (go_at_call 19; refine (works_any _).mono ?_; rintro e wk2 ⟨rfl, hk2⟩) | fail)
        go_ret
        exact ⟨rfl, bstep HW.out (rstep hk2 hX2)⟩
      · have hb1 : (b == 0) = false := by simpa using hb0
        rw [hb1] at hq
        have hro : ∀ w, Calls Try.prog 27 #[W (mdN a b), W b] w fun e w' => e = .returned (.int .i64 (-1)) ∧ Below w.heap.size w w' := fun w => by
          have h := rorder_any (mdN a b) b (mdN_lt _ _ HA.out) HB.out w
          have hlt : mdN a b < b := by unfold mdN; rw [if_neg hb0]; exact Nat.mod_lt _ (by omega)
          rwa [cmpN_lt hlt] at h
        have he1 : ∀ w, (binOp .eql 24 (W (a / b * b + mdN a b)) (W a)).run Try.prog w = .ok (.bool true) w := fun w => by
          have e : a / b * b + mdN a b = a := by unfold mdN; rw [if_neg hb0, Nat.mul_comm]; exact Nat.div_add_mod a b
          rw [eqW, e]; simp
        have he2 : ∀ w, (binOp .eql 24 (W (sdN a b * b + smN a b)) (W a)).run Try.prog w = .ok (.bool true) w := fun w => by
          rw [eqW, signed_back a b hb0]; simp
        clear hb0 hb1
        go_upto_region 6 with fail
        have h0 : Below X.heap.size X wk.drew := hX2.drew
        clear hq
        go_region_held3 (fun w' => Below X.heap.size X w') (first | assumption | exact rstep (by assumption) (by assumption))
          (first
            | (go_at_call 27; refine (hro _).mono ?_; rintro e wk ⟨rfl, hk⟩)
            | (go_at_call 29; refine (rmul_any _ _ _).mono ?_; rintro e wk ⟨rfl, hk⟩)
            | (go_at_call 28; refine (radd_any _ _ _).mono ?_; rintro e wk ⟨rfl, hk⟩)
            | (go_at_call 11; refine (sdiv_any _ _ HA.out HB.out _).mono ?_; rintro e wk ⟨rfl, hk⟩)
            | (go_at_call 13; refine (smod_any _ _ HA.out HB.out _).mono ?_; rintro e wk ⟨rfl, hk⟩)
            | (go_at_call 19; refine (works_any _).mono ?_; rintro e wk ⟨rfl, hk⟩))
        all_goals
          go_wp2
          go_ret
          exact ⟨rfl, bstep HW.out (by assumption)⟩
  have cA0 : ∀ w', Below W0.heap.size W0 w' → w'.cell? ⟨w.heap.size, 0, none⟩ = some (.int .u64 (lb (a) 0)) := fun w' h => (cell_of_row _ _ 0 _ _ _ (A.block_below h)).trans rfl
  have cA1 : ∀ w', Below W0.heap.size W0 w' → w'.cell? ⟨w.heap.size, 1, none⟩ = some (.int .u64 (lb (a) 1)) := fun w' h => (cell_of_row _ _ 1 _ _ _ (A.block_below h)).trans rfl
  have cA2 : ∀ w', Below W0.heap.size W0 w' → w'.cell? ⟨w.heap.size, 2, none⟩ = some (.int .u64 (lb (a) 2)) := fun w' h => (cell_of_row _ _ 2 _ _ _ (A.block_below h)).trans rfl
  have cA3 : ∀ w', Below W0.heap.size W0 w' → w'.cell? ⟨w.heap.size, 3, none⟩ = some (.int .u64 (lb (a) 3)) := fun w' h => (cell_of_row _ _ 3 _ _ _ (A.block_below h)).trans rfl
  have cB0 : ∀ w', Below W0.heap.size W0 w' → w'.cell? ⟨w.heap.size + 1, 0, none⟩ = some (.int .u64 (lb (b) 0)) := fun w' h => (cell_of_row _ _ 0 _ _ _ (B.block_below h)).trans rfl
  have cB1 : ∀ w', Below W0.heap.size W0 w' → w'.cell? ⟨w.heap.size + 1, 1, none⟩ = some (.int .u64 (lb (b) 1)) := fun w' h => (cell_of_row _ _ 1 _ _ _ (B.block_below h)).trans rfl
  have cB2 : ∀ w', Below W0.heap.size W0 w' → w'.cell? ⟨w.heap.size + 1, 2, none⟩ = some (.int .u64 (lb (b) 2)) := fun w' h => (cell_of_row _ _ 2 _ _ _ (B.block_below h)).trans rfl
  have cB3 : ∀ w', Below W0.heap.size W0 w' → w'.cell? ⟨w.heap.size + 1, 3, none⟩ = some (.int .u64 (lb (b) 3)) := fun w' h => (cell_of_row _ _ 3 _ _ _ (B.block_below h)).trans rfl
  have HW := Lib.hid hW
  clear A B hW hK
  refine join2 (C := fun X Y wz => Blk wz X 24 #[.int .u64 0, .int .u64 0, .int .u64 0, .int .u64 0] ∧ Blk wz Y 24 #[.int .u64 0, .int .u64 0, .int .u64 0, .int .u64 0] ∧ X ≠ Y ∧ W0.heap.size ≤ X ∧ W0.heap.size ≤ Y ∧ Below W0.heap.size W0 wz) ?PJ ?main ?hrest
  case main =>
    intro rest
    refine wp_region_held_drew (S := fun w' => Below W0.heap.size W0 w') (by as_aux_lemma => kernel_rfl) (Below.refl _ _).drew (fun hHeld => ?_)
    simp only [List.size_toArray, List.length_cons, List.length_nil, Nat.reduceAdd, Array.replicate_succ, Array.replicate_zero, List.push_toArray, List.nil_append, List.cons_append]
    refine wpAnyH_take (i := 0) (oi := { dst := some 7, op := Op.load 24 (Operand.tmp 2), type := 24, pos := "law.go:66", after := #[], guard := none }) (v := ?vq0) rfl (by as_aux_lemma => kernel_rfl) (by as_aux_lemma => kernel_rfl) (by as_aux_lemma => kernel_rfl) (fun _ _ _ h => h) (Or.inl ⟨by rfl, ?yq0⟩) (by assumption) ?rq0
    case yq0 => (intro w hSw; (try dsimp only at hSw); go_simp <;> with_reducible rfl)
    simp only [Act.put, List.setIfInBounds_toArray, List.set_cons_zero, List.set_cons_succ]
    refine wpAnyH_take (i := 1) (oi := { dst := some 8, op := Op.load 24 (Operand.tmp 3), type := 24, pos := "law.go:66", after := #[], guard := none }) (v := ?vq1) rfl (by as_aux_lemma => kernel_rfl) (by as_aux_lemma => kernel_rfl) (by as_aux_lemma => kernel_rfl) (fun _ _ _ h => h) (Or.inl ⟨by rfl, ?yq1⟩) (by assumption) ?rq1
    case yq1 => (intro w hSw; (try dsimp only at hSw); go_simp <;> with_reducible rfl)
    simp only [Act.put, List.setIfInBounds_toArray, List.set_cons_zero, List.set_cons_succ]
    refine wpAnyH_take (i := 3) (oi := { dst := some 10, op := Op.load 24 (Operand.tmp 2), type := 24, pos := "law.go:66", after := #[], guard := none }) (v := ?vq2) rfl (by as_aux_lemma => kernel_rfl) (by as_aux_lemma => kernel_rfl) (by as_aux_lemma => kernel_rfl) (fun _ _ _ h => h) (Or.inl ⟨by rfl, ?yq2⟩) (by assumption) ?rq2
    case yq2 => (intro w hSw; (try dsimp only at hSw); go_simp <;> with_reducible rfl)
    simp only [Act.put, List.setIfInBounds_toArray, List.set_cons_zero, List.set_cons_succ]
    refine wpAnyH_take (i := 4) (oi := { dst := some 11, op := Op.load 24 (Operand.tmp 3), type := 24, pos := "law.go:66", after := #[], guard := none }) (v := ?vq3) rfl (by as_aux_lemma => kernel_rfl) (by as_aux_lemma => kernel_rfl) (by as_aux_lemma => kernel_rfl) (fun _ _ _ h => h) (Or.inl ⟨by rfl, ?yq3⟩) (by assumption) ?rq3
    case yq3 => (intro w hSw; (try dsimp only at hSw); go_simp <;> with_reducible rfl)
    simp only [Act.put, List.setIfInBounds_toArray, List.set_cons_zero, List.set_cons_succ]
    refine wpAnyH_ready (rs := [2, 6, 7]) (by as_aux_lemma => kernel_rfl) (by simp) ?_
    refine AllReadyH.cons (o := { dst := some 9, op := Op.call { callee := Callee.value (Operand.func 9), args := #[Operand.tmp 7, Operand.tmp 8], argTypes := #[24, 24] }, type := 24, pos := "law.go:66", after := #[{ on := 0, ground := Ground.data }, { on := 1, ground := Ground.data }], guard := none }) rfl (fun K hK => ?_) ?_
    · rw [if_pos (by rfl)]
      go_simp
      (go_at_call 9; refine (div_all _ _ HA.out HB.out _).mono ?_; rintro e wk2 ⟨rfl, hk2⟩)
      refine hK.out _ _ (by (try dsimp only); (first | assumption | exact (Below.refl _ _).drew | exact (balloc (Below.refl _ _) _).drew | exact rstep (by assumption) (by assumption) | exact balloc (by assumption) _ | exact balloc (balloc (by assumption) _) _)) (fun hHeld => ?_)
      clear hK K
      simp only [List.setIfInBounds_toArray, List.set_cons_zero, List.set_cons_succ]
      refine wpAnyH_ready (rs := [5, 6, 7]) (by as_aux_lemma => kernel_rfl) (by simp) ?_
      refine AllReadyH.cons (o := { dst := some 12, op := Op.call { callee := Callee.value (Operand.func 10), args := #[Operand.tmp 10, Operand.tmp 11], argTypes := #[24, 24] }, type := 24, pos := "law.go:66", after := #[{ on := 3, ground := Ground.data }, { on := 4, ground := Ground.data }, { on := 2, ground := Ground.chain }], guard := none }) rfl (fun K hK => ?_) ?_
      · rw [if_pos (by rfl)]
        go_simp
        (go_at_call 10; refine (mod_all _ _ HA.out HB.out _).mono ?_; rintro e wk5 ⟨rfl, hk5⟩)
        refine hK.out _ _ (by (try dsimp only); (first | assumption | exact (Below.refl _ _).drew | exact (balloc (Below.refl _ _) _).drew | exact rstep (by assumption) (by assumption) | exact balloc (by assumption) _ | exact balloc (balloc (by assumption) _) _)) (fun hHeld => ?_)
        clear hK K
        simp only [List.setIfInBounds_toArray, List.set_cons_zero, List.set_cons_succ]
        refine wpAnyH_ready (rs := [6, 7]) (by as_aux_lemma => kernel_rfl) (by simp) ?_
        refine AllReadyH.cons (o := { dst := some 5, op := Op.alloc 24, type := 0, pos := "law.go:66", after := #[], guard := none }) rfl (fun K hK => ?_) ?_
        · rw [if_pos (by rfl)]
          go_simp
          refine hK.out _ _ (by (try dsimp only); (first | assumption | exact (Below.refl _ _).drew | exact (balloc (Below.refl _ _) _).drew | exact rstep (by assumption) (by assumption) | exact balloc (by assumption) _ | exact balloc (balloc (by assumption) _) _)) (fun hHeld => ?_)
          clear hK K
          simp only [List.setIfInBounds_toArray, List.set_cons_zero, List.set_cons_succ]
          refine wpAnyH_ready (rs := [7]) (by as_aux_lemma => kernel_rfl) (by simp) ?_
          refine AllReadyH.cons (o := { dst := some 6, op := Op.alloc 24, type := 0, pos := "law.go:66", after := #[], guard := none }) rfl (fun K hK => ?_) (by exact AllReadyH.nil)
          rw [if_pos (by rfl)]
          go_simp
          refine hK.out _ _ (by (try dsimp only); (first | assumption | exact (Below.refl _ _).drew | exact (balloc (Below.refl _ _) _).drew | exact rstep (by assumption) (by assumption) | exact balloc (by assumption) _ | exact balloc (balloc (by assumption) _) _)) (fun hHeld => ?_)
          clear hK K
          simp only [List.setIfInBounds_toArray, List.set_cons_zero, List.set_cons_succ]
          have z1 : Blk ((wk5.alloc (.cells #[.int .u64 0, .int .u64 0, .int .u64 0, .int .u64 0] 24)).alloc (.cells #[.int .u64 0, .int .u64 0, .int .u64 0, .int .u64 0] 24)) wk5.heap.size 24 #[.int .u64 0, .int .u64 0, .int .u64 0, .int .u64 0] := (Blk.new _ _ _).alloc _
          have z2 : Blk ((wk5.alloc (.cells #[.int .u64 0, .int .u64 0, .int .u64 0, .int .u64 0] 24)).alloc (.cells #[.int .u64 0, .int .u64 0, .int .u64 0, .int .u64 0] 24)) (wk5.heap.size + 1) 24 #[.int .u64 0, .int .u64 0, .int .u64 0, .int .u64 0] := Blk.newS _ _ _ _
          have z3 : wk5.heap.size ≠ wk5.heap.size + 1 := by omega
          have z4 : W0.heap.size ≤ wk5.heap.size := by (have e1 := hk2.size; have e3 := hk5.size; first | (simp only [World.size_drew'] at e1 e3 ⊢; omega) | (simp only [World.size_alloc, World.size_drew'] at e1 e3 ⊢; omega))
          have z5 : W0.heap.size ≤ wk5.heap.size + 1 := by omega
          have z6 := hHeld
          clear hHeld
          generalize ((wk5.alloc _).alloc _) = wz at z1 z2 z6 ⊢
          generalize wk5.heap.size + 1 = Y at z2 z3 z5 ⊢
          generalize wk5.heap.size = X at z1 z3 z4 ⊢
          exact rest X Y wz ⟨z1, z2, z3, z4, z5, z6⟩
        refine AllReadyH.cons (o := { dst := some 6, op := Op.alloc 24, type := 0, pos := "law.go:66", after := #[], guard := none }) rfl (fun K hK => ?_) (by exact AllReadyH.nil)
        rw [if_pos (by rfl)]
        go_simp
        refine hK.out _ _ (by (try dsimp only); (first | assumption | exact (Below.refl _ _).drew | exact (balloc (Below.refl _ _) _).drew | exact rstep (by assumption) (by assumption) | exact balloc (by assumption) _ | exact balloc (balloc (by assumption) _) _)) (fun hHeld => ?_)
        clear hK K
        simp only [List.setIfInBounds_toArray, List.set_cons_zero, List.set_cons_succ]
        refine wpAnyH_ready (rs := [6]) (by as_aux_lemma => kernel_rfl) (by simp) ?_
        refine AllReadyH.cons (o := { dst := some 5, op := Op.alloc 24, type := 0, pos := "law.go:66", after := #[], guard := none }) rfl (fun K hK => ?_) (by exact AllReadyH.nil)
        rw [if_pos (by rfl)]
        go_simp
        refine hK.out _ _ (by (try dsimp only); (first | assumption | exact (Below.refl _ _).drew | exact (balloc (Below.refl _ _) _).drew | exact rstep (by assumption) (by assumption) | exact balloc (by assumption) _ | exact balloc (balloc (by assumption) _) _)) (fun hHeld => ?_)
        clear hK K
        simp only [List.setIfInBounds_toArray, List.set_cons_zero, List.set_cons_succ]
        refine rest _ _ _ ⟨?_, ?_, ?_, ?_, ?_, hHeld⟩
        · (repeat (first | exact Blk.new _ _ _ | exact Blk.newS _ _ _ _ | with_reducible refine Blk.drewR ?_ | with_reducible refine Blk.alloc ?_ _ | refine Blk.keep ?_ hk5 | refine Blk.keep ?_ hk2))
        · (repeat (first | exact Blk.new _ _ _ | exact Blk.newS _ _ _ _ | with_reducible refine Blk.drewR ?_ | with_reducible refine Blk.alloc ?_ _ | refine Blk.keep ?_ hk5 | refine Blk.keep ?_ hk2))
        · (have e1 := hk2.size; have e3 := hk5.size; first | (simp only [World.size_drew'] at e1 e3 ⊢; omega) | (simp only [World.size_alloc, World.size_drew'] at e1 e3 ⊢; omega))
        · (have e1 := hk2.size; have e3 := hk5.size; first | (simp only [World.size_drew'] at e1 e3 ⊢; omega) | (simp only [World.size_alloc, World.size_drew'] at e1 e3 ⊢; omega))
        · (have e1 := hk2.size; have e3 := hk5.size; first | (simp only [World.size_drew'] at e1 e3 ⊢; omega) | (simp only [World.size_alloc, World.size_drew'] at e1 e3 ⊢; omega))
      refine AllReadyH.cons (o := { dst := some 5, op := Op.alloc 24, type := 0, pos := "law.go:66", after := #[], guard := none }) rfl (fun K hK => ?_) ?_
      · rw [if_pos (by rfl)]
        go_simp
        refine hK.out _ _ (by (try dsimp only); (first | assumption | exact (Below.refl _ _).drew | exact (balloc (Below.refl _ _) _).drew | exact rstep (by assumption) (by assumption) | exact balloc (by assumption) _ | exact balloc (balloc (by assumption) _) _)) (fun hHeld => ?_)
        clear hK K
        simp only [List.setIfInBounds_toArray, List.set_cons_zero, List.set_cons_succ]
        refine wpAnyH_ready (rs := [5, 7]) (by as_aux_lemma => kernel_rfl) (by simp) ?_
        refine AllReadyH.cons (o := { dst := some 12, op := Op.call { callee := Callee.value (Operand.func 10), args := #[Operand.tmp 10, Operand.tmp 11], argTypes := #[24, 24] }, type := 24, pos := "law.go:66", after := #[{ on := 3, ground := Ground.data }, { on := 4, ground := Ground.data }, { on := 2, ground := Ground.chain }], guard := none }) rfl (fun K hK => ?_) ?_
        · rw [if_pos (by rfl)]
          go_simp
          (go_at_call 10; refine (mod_all _ _ HA.out HB.out _).mono ?_; rintro e wk5 ⟨rfl, hk5⟩)
          refine hK.out _ _ (by (try dsimp only); (first | assumption | exact (Below.refl _ _).drew | exact (balloc (Below.refl _ _) _).drew | exact rstep (by assumption) (by assumption) | exact balloc (by assumption) _ | exact balloc (balloc (by assumption) _) _)) (fun hHeld => ?_)
          clear hK K
          simp only [List.setIfInBounds_toArray, List.set_cons_zero, List.set_cons_succ]
          refine wpAnyH_ready (rs := [7]) (by as_aux_lemma => kernel_rfl) (by simp) ?_
          refine AllReadyH.cons (o := { dst := some 6, op := Op.alloc 24, type := 0, pos := "law.go:66", after := #[], guard := none }) rfl (fun K hK => ?_) (by exact AllReadyH.nil)
          rw [if_pos (by rfl)]
          go_simp
          refine hK.out _ _ (by (try dsimp only); (first | assumption | exact (Below.refl _ _).drew | exact (balloc (Below.refl _ _) _).drew | exact rstep (by assumption) (by assumption) | exact balloc (by assumption) _ | exact balloc (balloc (by assumption) _) _)) (fun hHeld => ?_)
          clear hK K
          simp only [List.setIfInBounds_toArray, List.set_cons_zero, List.set_cons_succ]
          refine rest _ _ _ ⟨?_, ?_, ?_, ?_, ?_, hHeld⟩
          · (repeat (first | exact Blk.new _ _ _ | exact Blk.newS _ _ _ _ | with_reducible refine Blk.drewR ?_ | with_reducible refine Blk.alloc ?_ _ | refine Blk.keep ?_ hk5 | refine Blk.keep ?_ hk2))
          · (repeat (first | exact Blk.new _ _ _ | exact Blk.newS _ _ _ _ | with_reducible refine Blk.drewR ?_ | with_reducible refine Blk.alloc ?_ _ | refine Blk.keep ?_ hk5 | refine Blk.keep ?_ hk2))
          · (have e1 := hk2.size; have e3 := hk5.size; first | (simp only [World.size_drew'] at e1 e3 ⊢; omega) | (simp only [World.size_alloc, World.size_drew'] at e1 e3 ⊢; omega))
          · (have e1 := hk2.size; have e3 := hk5.size; first | (simp only [World.size_drew'] at e1 e3 ⊢; omega) | (simp only [World.size_alloc, World.size_drew'] at e1 e3 ⊢; omega))
          · (have e1 := hk2.size; have e3 := hk5.size; first | (simp only [World.size_drew'] at e1 e3 ⊢; omega) | (simp only [World.size_alloc, World.size_drew'] at e1 e3 ⊢; omega))
        refine AllReadyH.cons (o := { dst := some 6, op := Op.alloc 24, type := 0, pos := "law.go:66", after := #[], guard := none }) rfl (fun K hK => ?_) (by exact AllReadyH.nil)
        rw [if_pos (by rfl)]
        go_simp
        refine hK.out _ _ (by (try dsimp only); (first | assumption | exact (Below.refl _ _).drew | exact (balloc (Below.refl _ _) _).drew | exact rstep (by assumption) (by assumption) | exact balloc (by assumption) _ | exact balloc (balloc (by assumption) _) _)) (fun hHeld => ?_)
        clear hK K
        simp only [List.setIfInBounds_toArray, List.set_cons_zero, List.set_cons_succ]
        refine wpAnyH_ready (rs := [5]) (by as_aux_lemma => kernel_rfl) (by simp) ?_
        refine AllReadyH.cons (o := { dst := some 12, op := Op.call { callee := Callee.value (Operand.func 10), args := #[Operand.tmp 10, Operand.tmp 11], argTypes := #[24, 24] }, type := 24, pos := "law.go:66", after := #[{ on := 3, ground := Ground.data }, { on := 4, ground := Ground.data }, { on := 2, ground := Ground.chain }], guard := none }) rfl (fun K hK => ?_) (by exact AllReadyH.nil)
        rw [if_pos (by rfl)]
        go_simp
        (go_at_call 10; refine (mod_all _ _ HA.out HB.out _).mono ?_; rintro e wk5 ⟨rfl, hk5⟩)
        refine hK.out _ _ (by (try dsimp only); (first | assumption | exact (Below.refl _ _).drew | exact (balloc (Below.refl _ _) _).drew | exact rstep (by assumption) (by assumption) | exact balloc (by assumption) _ | exact balloc (balloc (by assumption) _) _)) (fun hHeld => ?_)
        clear hK K
        simp only [List.setIfInBounds_toArray, List.set_cons_zero, List.set_cons_succ]
        refine rest _ _ _ ⟨?_, ?_, ?_, ?_, ?_, hHeld⟩
        · (repeat (first | exact Blk.new _ _ _ | exact Blk.newS _ _ _ _ | with_reducible refine Blk.drewR ?_ | with_reducible refine Blk.alloc ?_ _ | refine Blk.keep ?_ hk5 | refine Blk.keep ?_ hk2))
        · (repeat (first | exact Blk.new _ _ _ | exact Blk.newS _ _ _ _ | with_reducible refine Blk.drewR ?_ | with_reducible refine Blk.alloc ?_ _ | refine Blk.keep ?_ hk5 | refine Blk.keep ?_ hk2))
        · (have e1 := hk2.size; have e3 := hk5.size; first | (simp only [World.size_drew'] at e1 e3 ⊢; omega) | (simp only [World.size_alloc, World.size_drew'] at e1 e3 ⊢; omega))
        · (have e1 := hk2.size; have e3 := hk5.size; first | (simp only [World.size_drew'] at e1 e3 ⊢; omega) | (simp only [World.size_alloc, World.size_drew'] at e1 e3 ⊢; omega))
        · (have e1 := hk2.size; have e3 := hk5.size; first | (simp only [World.size_drew'] at e1 e3 ⊢; omega) | (simp only [World.size_alloc, World.size_drew'] at e1 e3 ⊢; omega))
      refine AllReadyH.cons (o := { dst := some 6, op := Op.alloc 24, type := 0, pos := "law.go:66", after := #[], guard := none }) rfl (fun K hK => ?_) (by exact AllReadyH.nil)
      rw [if_pos (by rfl)]
      go_simp
      refine hK.out _ _ (by (try dsimp only); (first | assumption | exact (Below.refl _ _).drew | exact (balloc (Below.refl _ _) _).drew | exact rstep (by assumption) (by assumption) | exact balloc (by assumption) _ | exact balloc (balloc (by assumption) _) _)) (fun hHeld => ?_)
      clear hK K
      simp only [List.setIfInBounds_toArray, List.set_cons_zero, List.set_cons_succ]
      refine wpAnyH_ready (rs := [5, 6]) (by as_aux_lemma => kernel_rfl) (by simp) ?_
      refine AllReadyH.cons (o := { dst := some 12, op := Op.call { callee := Callee.value (Operand.func 10), args := #[Operand.tmp 10, Operand.tmp 11], argTypes := #[24, 24] }, type := 24, pos := "law.go:66", after := #[{ on := 3, ground := Ground.data }, { on := 4, ground := Ground.data }, { on := 2, ground := Ground.chain }], guard := none }) rfl (fun K hK => ?_) ?_
      · rw [if_pos (by rfl)]
        go_simp
        (go_at_call 10; refine (mod_all _ _ HA.out HB.out _).mono ?_; rintro e wk5 ⟨rfl, hk5⟩)
        refine hK.out _ _ (by (try dsimp only); (first | assumption | exact (Below.refl _ _).drew | exact (balloc (Below.refl _ _) _).drew | exact rstep (by assumption) (by assumption) | exact balloc (by assumption) _ | exact balloc (balloc (by assumption) _) _)) (fun hHeld => ?_)
        clear hK K
        simp only [List.setIfInBounds_toArray, List.set_cons_zero, List.set_cons_succ]
        refine wpAnyH_ready (rs := [6]) (by as_aux_lemma => kernel_rfl) (by simp) ?_
        refine AllReadyH.cons (o := { dst := some 5, op := Op.alloc 24, type := 0, pos := "law.go:66", after := #[], guard := none }) rfl (fun K hK => ?_) (by exact AllReadyH.nil)
        rw [if_pos (by rfl)]
        go_simp
        refine hK.out _ _ (by (try dsimp only); (first | assumption | exact (Below.refl _ _).drew | exact (balloc (Below.refl _ _) _).drew | exact rstep (by assumption) (by assumption) | exact balloc (by assumption) _ | exact balloc (balloc (by assumption) _) _)) (fun hHeld => ?_)
        clear hK K
        simp only [List.setIfInBounds_toArray, List.set_cons_zero, List.set_cons_succ]
        refine rest _ _ _ ⟨?_, ?_, ?_, ?_, ?_, hHeld⟩
        · (repeat (first | exact Blk.new _ _ _ | exact Blk.newS _ _ _ _ | with_reducible refine Blk.drewR ?_ | with_reducible refine Blk.alloc ?_ _ | refine Blk.keep ?_ hk5 | refine Blk.keep ?_ hk2))
        · (repeat (first | exact Blk.new _ _ _ | exact Blk.newS _ _ _ _ | with_reducible refine Blk.drewR ?_ | with_reducible refine Blk.alloc ?_ _ | refine Blk.keep ?_ hk5 | refine Blk.keep ?_ hk2))
        · (have e1 := hk2.size; have e3 := hk5.size; first | (simp only [World.size_drew'] at e1 e3 ⊢; omega) | (simp only [World.size_alloc, World.size_drew'] at e1 e3 ⊢; omega))
        · (have e1 := hk2.size; have e3 := hk5.size; first | (simp only [World.size_drew'] at e1 e3 ⊢; omega) | (simp only [World.size_alloc, World.size_drew'] at e1 e3 ⊢; omega))
        · (have e1 := hk2.size; have e3 := hk5.size; first | (simp only [World.size_drew'] at e1 e3 ⊢; omega) | (simp only [World.size_alloc, World.size_drew'] at e1 e3 ⊢; omega))
      refine AllReadyH.cons (o := { dst := some 5, op := Op.alloc 24, type := 0, pos := "law.go:66", after := #[], guard := none }) rfl (fun K hK => ?_) (by exact AllReadyH.nil)
      rw [if_pos (by rfl)]
      go_simp
      refine hK.out _ _ (by (try dsimp only); (first | assumption | exact (Below.refl _ _).drew | exact (balloc (Below.refl _ _) _).drew | exact rstep (by assumption) (by assumption) | exact balloc (by assumption) _ | exact balloc (balloc (by assumption) _) _)) (fun hHeld => ?_)
      clear hK K
      simp only [List.setIfInBounds_toArray, List.set_cons_zero, List.set_cons_succ]
      refine wpAnyH_ready (rs := [5]) (by as_aux_lemma => kernel_rfl) (by simp) ?_
      refine AllReadyH.cons (o := { dst := some 12, op := Op.call { callee := Callee.value (Operand.func 10), args := #[Operand.tmp 10, Operand.tmp 11], argTypes := #[24, 24] }, type := 24, pos := "law.go:66", after := #[{ on := 3, ground := Ground.data }, { on := 4, ground := Ground.data }, { on := 2, ground := Ground.chain }], guard := none }) rfl (fun K hK => ?_) (by exact AllReadyH.nil)
      rw [if_pos (by rfl)]
      go_simp
      (go_at_call 10; refine (mod_all _ _ HA.out HB.out _).mono ?_; rintro e wk5 ⟨rfl, hk5⟩)
      refine hK.out _ _ (by (try dsimp only); (first | assumption | exact (Below.refl _ _).drew | exact (balloc (Below.refl _ _) _).drew | exact rstep (by assumption) (by assumption) | exact balloc (by assumption) _ | exact balloc (balloc (by assumption) _) _)) (fun hHeld => ?_)
      clear hK K
      simp only [List.setIfInBounds_toArray, List.set_cons_zero, List.set_cons_succ]
      refine rest _ _ _ ⟨?_, ?_, ?_, ?_, ?_, hHeld⟩
      · (repeat (first | exact Blk.new _ _ _ | exact Blk.newS _ _ _ _ | with_reducible refine Blk.drewR ?_ | with_reducible refine Blk.alloc ?_ _ | refine Blk.keep ?_ hk5 | refine Blk.keep ?_ hk2))
      · (repeat (first | exact Blk.new _ _ _ | exact Blk.newS _ _ _ _ | with_reducible refine Blk.drewR ?_ | with_reducible refine Blk.alloc ?_ _ | refine Blk.keep ?_ hk5 | refine Blk.keep ?_ hk2))
      · (have e1 := hk2.size; have e3 := hk5.size; first | (simp only [World.size_drew'] at e1 e3 ⊢; omega) | (simp only [World.size_alloc, World.size_drew'] at e1 e3 ⊢; omega))
      · (have e1 := hk2.size; have e3 := hk5.size; first | (simp only [World.size_drew'] at e1 e3 ⊢; omega) | (simp only [World.size_alloc, World.size_drew'] at e1 e3 ⊢; omega))
      · (have e1 := hk2.size; have e3 := hk5.size; first | (simp only [World.size_drew'] at e1 e3 ⊢; omega) | (simp only [World.size_alloc, World.size_drew'] at e1 e3 ⊢; omega))
    refine AllReadyH.cons (o := { dst := some 5, op := Op.alloc 24, type := 0, pos := "law.go:66", after := #[], guard := none }) rfl (fun K hK => ?_) ?_
    · rw [if_pos (by rfl)]
      go_simp
      refine hK.out _ _ (by (try dsimp only); (first | assumption | exact (Below.refl _ _).drew | exact (balloc (Below.refl _ _) _).drew | exact rstep (by assumption) (by assumption) | exact balloc (by assumption) _ | exact balloc (balloc (by assumption) _) _)) (fun hHeld => ?_)
      clear hK K
      simp only [List.setIfInBounds_toArray, List.set_cons_zero, List.set_cons_succ]
      refine wpAnyH_ready (rs := [2, 7]) (by as_aux_lemma => kernel_rfl) (by simp) ?_
      refine AllReadyH.cons (o := { dst := some 9, op := Op.call { callee := Callee.value (Operand.func 9), args := #[Operand.tmp 7, Operand.tmp 8], argTypes := #[24, 24] }, type := 24, pos := "law.go:66", after := #[{ on := 0, ground := Ground.data }, { on := 1, ground := Ground.data }], guard := none }) rfl (fun K hK => ?_) ?_
      · rw [if_pos (by rfl)]
        go_simp
        (go_at_call 9; refine (div_all _ _ HA.out HB.out _).mono ?_; rintro e wk2 ⟨rfl, hk2⟩)
        refine hK.out _ _ (by (try dsimp only); (first | assumption | exact (Below.refl _ _).drew | exact (balloc (Below.refl _ _) _).drew | exact rstep (by assumption) (by assumption) | exact balloc (by assumption) _ | exact balloc (balloc (by assumption) _) _)) (fun hHeld => ?_)
        clear hK K
        simp only [List.setIfInBounds_toArray, List.set_cons_zero, List.set_cons_succ]
        refine wpAnyH_ready (rs := [5, 7]) (by as_aux_lemma => kernel_rfl) (by simp) ?_
        refine AllReadyH.cons (o := { dst := some 12, op := Op.call { callee := Callee.value (Operand.func 10), args := #[Operand.tmp 10, Operand.tmp 11], argTypes := #[24, 24] }, type := 24, pos := "law.go:66", after := #[{ on := 3, ground := Ground.data }, { on := 4, ground := Ground.data }, { on := 2, ground := Ground.chain }], guard := none }) rfl (fun K hK => ?_) ?_
        · rw [if_pos (by rfl)]
          go_simp
          (go_at_call 10; refine (mod_all _ _ HA.out HB.out _).mono ?_; rintro e wk5 ⟨rfl, hk5⟩)
          refine hK.out _ _ (by (try dsimp only); (first | assumption | exact (Below.refl _ _).drew | exact (balloc (Below.refl _ _) _).drew | exact rstep (by assumption) (by assumption) | exact balloc (by assumption) _ | exact balloc (balloc (by assumption) _) _)) (fun hHeld => ?_)
          clear hK K
          simp only [List.setIfInBounds_toArray, List.set_cons_zero, List.set_cons_succ]
          refine wpAnyH_ready (rs := [7]) (by as_aux_lemma => kernel_rfl) (by simp) ?_
          refine AllReadyH.cons (o := { dst := some 6, op := Op.alloc 24, type := 0, pos := "law.go:66", after := #[], guard := none }) rfl (fun K hK => ?_) (by exact AllReadyH.nil)
          rw [if_pos (by rfl)]
          go_simp
          refine hK.out _ _ (by (try dsimp only); (first | assumption | exact (Below.refl _ _).drew | exact (balloc (Below.refl _ _) _).drew | exact rstep (by assumption) (by assumption) | exact balloc (by assumption) _ | exact balloc (balloc (by assumption) _) _)) (fun hHeld => ?_)
          clear hK K
          simp only [List.setIfInBounds_toArray, List.set_cons_zero, List.set_cons_succ]
          refine rest _ _ _ ⟨?_, ?_, ?_, ?_, ?_, hHeld⟩
          · (repeat (first | exact Blk.new _ _ _ | exact Blk.newS _ _ _ _ | with_reducible refine Blk.drewR ?_ | with_reducible refine Blk.alloc ?_ _ | refine Blk.keep ?_ hk5 | refine Blk.keep ?_ hk2))
          · (repeat (first | exact Blk.new _ _ _ | exact Blk.newS _ _ _ _ | with_reducible refine Blk.drewR ?_ | with_reducible refine Blk.alloc ?_ _ | refine Blk.keep ?_ hk5 | refine Blk.keep ?_ hk2))
          · (have e1 := hk2.size; have e3 := hk5.size; first | (simp only [World.size_drew'] at e1 e3 ⊢; omega) | (simp only [World.size_alloc, World.size_drew'] at e1 e3 ⊢; omega))
          · (have e1 := hk2.size; have e3 := hk5.size; first | (simp only [World.size_drew'] at e1 e3 ⊢; omega) | (simp only [World.size_alloc, World.size_drew'] at e1 e3 ⊢; omega))
          · (have e1 := hk2.size; have e3 := hk5.size; first | (simp only [World.size_drew'] at e1 e3 ⊢; omega) | (simp only [World.size_alloc, World.size_drew'] at e1 e3 ⊢; omega))
        refine AllReadyH.cons (o := { dst := some 6, op := Op.alloc 24, type := 0, pos := "law.go:66", after := #[], guard := none }) rfl (fun K hK => ?_) (by exact AllReadyH.nil)
        rw [if_pos (by rfl)]
        go_simp
        refine hK.out _ _ (by (try dsimp only); (first | assumption | exact (Below.refl _ _).drew | exact (balloc (Below.refl _ _) _).drew | exact rstep (by assumption) (by assumption) | exact balloc (by assumption) _ | exact balloc (balloc (by assumption) _) _)) (fun hHeld => ?_)
        clear hK K
        simp only [List.setIfInBounds_toArray, List.set_cons_zero, List.set_cons_succ]
        refine wpAnyH_ready (rs := [5]) (by as_aux_lemma => kernel_rfl) (by simp) ?_
        refine AllReadyH.cons (o := { dst := some 12, op := Op.call { callee := Callee.value (Operand.func 10), args := #[Operand.tmp 10, Operand.tmp 11], argTypes := #[24, 24] }, type := 24, pos := "law.go:66", after := #[{ on := 3, ground := Ground.data }, { on := 4, ground := Ground.data }, { on := 2, ground := Ground.chain }], guard := none }) rfl (fun K hK => ?_) (by exact AllReadyH.nil)
        rw [if_pos (by rfl)]
        go_simp
        (go_at_call 10; refine (mod_all _ _ HA.out HB.out _).mono ?_; rintro e wk5 ⟨rfl, hk5⟩)
        refine hK.out _ _ (by (try dsimp only); (first | assumption | exact (Below.refl _ _).drew | exact (balloc (Below.refl _ _) _).drew | exact rstep (by assumption) (by assumption) | exact balloc (by assumption) _ | exact balloc (balloc (by assumption) _) _)) (fun hHeld => ?_)
        clear hK K
        simp only [List.setIfInBounds_toArray, List.set_cons_zero, List.set_cons_succ]
        refine rest _ _ _ ⟨?_, ?_, ?_, ?_, ?_, hHeld⟩
        · (repeat (first | exact Blk.new _ _ _ | exact Blk.newS _ _ _ _ | with_reducible refine Blk.drewR ?_ | with_reducible refine Blk.alloc ?_ _ | refine Blk.keep ?_ hk5 | refine Blk.keep ?_ hk2))
        · (repeat (first | exact Blk.new _ _ _ | exact Blk.newS _ _ _ _ | with_reducible refine Blk.drewR ?_ | with_reducible refine Blk.alloc ?_ _ | refine Blk.keep ?_ hk5 | refine Blk.keep ?_ hk2))
        · (have e1 := hk2.size; have e3 := hk5.size; first | (simp only [World.size_drew'] at e1 e3 ⊢; omega) | (simp only [World.size_alloc, World.size_drew'] at e1 e3 ⊢; omega))
        · (have e1 := hk2.size; have e3 := hk5.size; first | (simp only [World.size_drew'] at e1 e3 ⊢; omega) | (simp only [World.size_alloc, World.size_drew'] at e1 e3 ⊢; omega))
        · (have e1 := hk2.size; have e3 := hk5.size; first | (simp only [World.size_drew'] at e1 e3 ⊢; omega) | (simp only [World.size_alloc, World.size_drew'] at e1 e3 ⊢; omega))
      refine AllReadyH.cons (o := { dst := some 6, op := Op.alloc 24, type := 0, pos := "law.go:66", after := #[], guard := none }) rfl (fun K hK => ?_) (by exact AllReadyH.nil)
      rw [if_pos (by rfl)]
      go_simp
      refine hK.out _ _ (by (try dsimp only); (first | assumption | exact (Below.refl _ _).drew | exact (balloc (Below.refl _ _) _).drew | exact rstep (by assumption) (by assumption) | exact balloc (by assumption) _ | exact balloc (balloc (by assumption) _) _)) (fun hHeld => ?_)
      clear hK K
      simp only [List.setIfInBounds_toArray, List.set_cons_zero, List.set_cons_succ]
      refine wpAnyH_ready (rs := [2]) (by as_aux_lemma => kernel_rfl) (by simp) ?_
      refine AllReadyH.cons (o := { dst := some 9, op := Op.call { callee := Callee.value (Operand.func 9), args := #[Operand.tmp 7, Operand.tmp 8], argTypes := #[24, 24] }, type := 24, pos := "law.go:66", after := #[{ on := 0, ground := Ground.data }, { on := 1, ground := Ground.data }], guard := none }) rfl (fun K hK => ?_) (by exact AllReadyH.nil)
      rw [if_pos (by rfl)]
      go_simp
      (go_at_call 9; refine (div_all _ _ HA.out HB.out _).mono ?_; rintro e wk2 ⟨rfl, hk2⟩)
      refine hK.out _ _ (by (try dsimp only); (first | assumption | exact (Below.refl _ _).drew | exact (balloc (Below.refl _ _) _).drew | exact rstep (by assumption) (by assumption) | exact balloc (by assumption) _ | exact balloc (balloc (by assumption) _) _)) (fun hHeld => ?_)
      clear hK K
      simp only [List.setIfInBounds_toArray, List.set_cons_zero, List.set_cons_succ]
      refine wpAnyH_ready (rs := [5]) (by as_aux_lemma => kernel_rfl) (by simp) ?_
      refine AllReadyH.cons (o := { dst := some 12, op := Op.call { callee := Callee.value (Operand.func 10), args := #[Operand.tmp 10, Operand.tmp 11], argTypes := #[24, 24] }, type := 24, pos := "law.go:66", after := #[{ on := 3, ground := Ground.data }, { on := 4, ground := Ground.data }, { on := 2, ground := Ground.chain }], guard := none }) rfl (fun K hK => ?_) (by exact AllReadyH.nil)
      rw [if_pos (by rfl)]
      go_simp
      (go_at_call 10; refine (mod_all _ _ HA.out HB.out _).mono ?_; rintro e wk5 ⟨rfl, hk5⟩)
      refine hK.out _ _ (by (try dsimp only); (first | assumption | exact (Below.refl _ _).drew | exact (balloc (Below.refl _ _) _).drew | exact rstep (by assumption) (by assumption) | exact balloc (by assumption) _ | exact balloc (balloc (by assumption) _) _)) (fun hHeld => ?_)
      clear hK K
      simp only [List.setIfInBounds_toArray, List.set_cons_zero, List.set_cons_succ]
      refine rest _ _ _ ⟨?_, ?_, ?_, ?_, ?_, hHeld⟩
      · (repeat (first | exact Blk.new _ _ _ | exact Blk.newS _ _ _ _ | with_reducible refine Blk.drewR ?_ | with_reducible refine Blk.alloc ?_ _ | refine Blk.keep ?_ hk5 | refine Blk.keep ?_ hk2))
      · (repeat (first | exact Blk.new _ _ _ | exact Blk.newS _ _ _ _ | with_reducible refine Blk.drewR ?_ | with_reducible refine Blk.alloc ?_ _ | refine Blk.keep ?_ hk5 | refine Blk.keep ?_ hk2))
      · (have e1 := hk2.size; have e3 := hk5.size; first | (simp only [World.size_drew'] at e1 e3 ⊢; omega) | (simp only [World.size_alloc, World.size_drew'] at e1 e3 ⊢; omega))
      · (have e1 := hk2.size; have e3 := hk5.size; first | (simp only [World.size_drew'] at e1 e3 ⊢; omega) | (simp only [World.size_alloc, World.size_drew'] at e1 e3 ⊢; omega))
      · (have e1 := hk2.size; have e3 := hk5.size; first | (simp only [World.size_drew'] at e1 e3 ⊢; omega) | (simp only [World.size_alloc, World.size_drew'] at e1 e3 ⊢; omega))
    refine AllReadyH.cons (o := { dst := some 6, op := Op.alloc 24, type := 0, pos := "law.go:66", after := #[], guard := none }) rfl (fun K hK => ?_) (by exact AllReadyH.nil)
    rw [if_pos (by rfl)]
    go_simp
    refine hK.out _ _ (by (try dsimp only); (first | assumption | exact (Below.refl _ _).drew | exact (balloc (Below.refl _ _) _).drew | exact rstep (by assumption) (by assumption) | exact balloc (by assumption) _ | exact balloc (balloc (by assumption) _) _)) (fun hHeld => ?_)
    clear hK K
    simp only [List.setIfInBounds_toArray, List.set_cons_zero, List.set_cons_succ]
    refine wpAnyH_ready (rs := [2, 6]) (by as_aux_lemma => kernel_rfl) (by simp) ?_
    refine AllReadyH.cons (o := { dst := some 9, op := Op.call { callee := Callee.value (Operand.func 9), args := #[Operand.tmp 7, Operand.tmp 8], argTypes := #[24, 24] }, type := 24, pos := "law.go:66", after := #[{ on := 0, ground := Ground.data }, { on := 1, ground := Ground.data }], guard := none }) rfl (fun K hK => ?_) ?_
    · rw [if_pos (by rfl)]
      go_simp
      (go_at_call 9; refine (div_all _ _ HA.out HB.out _).mono ?_; rintro e wk2 ⟨rfl, hk2⟩)
      refine hK.out _ _ (by (try dsimp only); (first | assumption | exact (Below.refl _ _).drew | exact (balloc (Below.refl _ _) _).drew | exact rstep (by assumption) (by assumption) | exact balloc (by assumption) _ | exact balloc (balloc (by assumption) _) _)) (fun hHeld => ?_)
      clear hK K
      simp only [List.setIfInBounds_toArray, List.set_cons_zero, List.set_cons_succ]
      refine wpAnyH_ready (rs := [5, 6]) (by as_aux_lemma => kernel_rfl) (by simp) ?_
      refine AllReadyH.cons (o := { dst := some 12, op := Op.call { callee := Callee.value (Operand.func 10), args := #[Operand.tmp 10, Operand.tmp 11], argTypes := #[24, 24] }, type := 24, pos := "law.go:66", after := #[{ on := 3, ground := Ground.data }, { on := 4, ground := Ground.data }, { on := 2, ground := Ground.chain }], guard := none }) rfl (fun K hK => ?_) ?_
      · rw [if_pos (by rfl)]
        go_simp
        (go_at_call 10; refine (mod_all _ _ HA.out HB.out _).mono ?_; rintro e wk5 ⟨rfl, hk5⟩)
        refine hK.out _ _ (by (try dsimp only); (first | assumption | exact (Below.refl _ _).drew | exact (balloc (Below.refl _ _) _).drew | exact rstep (by assumption) (by assumption) | exact balloc (by assumption) _ | exact balloc (balloc (by assumption) _) _)) (fun hHeld => ?_)
        clear hK K
        simp only [List.setIfInBounds_toArray, List.set_cons_zero, List.set_cons_succ]
        refine wpAnyH_ready (rs := [6]) (by as_aux_lemma => kernel_rfl) (by simp) ?_
        refine AllReadyH.cons (o := { dst := some 5, op := Op.alloc 24, type := 0, pos := "law.go:66", after := #[], guard := none }) rfl (fun K hK => ?_) (by exact AllReadyH.nil)
        rw [if_pos (by rfl)]
        go_simp
        refine hK.out _ _ (by (try dsimp only); (first | assumption | exact (Below.refl _ _).drew | exact (balloc (Below.refl _ _) _).drew | exact rstep (by assumption) (by assumption) | exact balloc (by assumption) _ | exact balloc (balloc (by assumption) _) _)) (fun hHeld => ?_)
        clear hK K
        simp only [List.setIfInBounds_toArray, List.set_cons_zero, List.set_cons_succ]
        refine rest _ _ _ ⟨?_, ?_, ?_, ?_, ?_, hHeld⟩
        · (repeat (first | exact Blk.new _ _ _ | exact Blk.newS _ _ _ _ | with_reducible refine Blk.drewR ?_ | with_reducible refine Blk.alloc ?_ _ | refine Blk.keep ?_ hk5 | refine Blk.keep ?_ hk2))
        · (repeat (first | exact Blk.new _ _ _ | exact Blk.newS _ _ _ _ | with_reducible refine Blk.drewR ?_ | with_reducible refine Blk.alloc ?_ _ | refine Blk.keep ?_ hk5 | refine Blk.keep ?_ hk2))
        · (have e1 := hk2.size; have e3 := hk5.size; first | (simp only [World.size_drew'] at e1 e3 ⊢; omega) | (simp only [World.size_alloc, World.size_drew'] at e1 e3 ⊢; omega))
        · (have e1 := hk2.size; have e3 := hk5.size; first | (simp only [World.size_drew'] at e1 e3 ⊢; omega) | (simp only [World.size_alloc, World.size_drew'] at e1 e3 ⊢; omega))
        · (have e1 := hk2.size; have e3 := hk5.size; first | (simp only [World.size_drew'] at e1 e3 ⊢; omega) | (simp only [World.size_alloc, World.size_drew'] at e1 e3 ⊢; omega))
      refine AllReadyH.cons (o := { dst := some 5, op := Op.alloc 24, type := 0, pos := "law.go:66", after := #[], guard := none }) rfl (fun K hK => ?_) (by exact AllReadyH.nil)
      rw [if_pos (by rfl)]
      go_simp
      refine hK.out _ _ (by (try dsimp only); (first | assumption | exact (Below.refl _ _).drew | exact (balloc (Below.refl _ _) _).drew | exact rstep (by assumption) (by assumption) | exact balloc (by assumption) _ | exact balloc (balloc (by assumption) _) _)) (fun hHeld => ?_)
      clear hK K
      simp only [List.setIfInBounds_toArray, List.set_cons_zero, List.set_cons_succ]
      refine wpAnyH_ready (rs := [5]) (by as_aux_lemma => kernel_rfl) (by simp) ?_
      refine AllReadyH.cons (o := { dst := some 12, op := Op.call { callee := Callee.value (Operand.func 10), args := #[Operand.tmp 10, Operand.tmp 11], argTypes := #[24, 24] }, type := 24, pos := "law.go:66", after := #[{ on := 3, ground := Ground.data }, { on := 4, ground := Ground.data }, { on := 2, ground := Ground.chain }], guard := none }) rfl (fun K hK => ?_) (by exact AllReadyH.nil)
      rw [if_pos (by rfl)]
      go_simp
      (go_at_call 10; refine (mod_all _ _ HA.out HB.out _).mono ?_; rintro e wk5 ⟨rfl, hk5⟩)
      refine hK.out _ _ (by (try dsimp only); (first | assumption | exact (Below.refl _ _).drew | exact (balloc (Below.refl _ _) _).drew | exact rstep (by assumption) (by assumption) | exact balloc (by assumption) _ | exact balloc (balloc (by assumption) _) _)) (fun hHeld => ?_)
      clear hK K
      simp only [List.setIfInBounds_toArray, List.set_cons_zero, List.set_cons_succ]
      refine rest _ _ _ ⟨?_, ?_, ?_, ?_, ?_, hHeld⟩
      · (repeat (first | exact Blk.new _ _ _ | exact Blk.newS _ _ _ _ | with_reducible refine Blk.drewR ?_ | with_reducible refine Blk.alloc ?_ _ | refine Blk.keep ?_ hk5 | refine Blk.keep ?_ hk2))
      · (repeat (first | exact Blk.new _ _ _ | exact Blk.newS _ _ _ _ | with_reducible refine Blk.drewR ?_ | with_reducible refine Blk.alloc ?_ _ | refine Blk.keep ?_ hk5 | refine Blk.keep ?_ hk2))
      · (have e1 := hk2.size; have e3 := hk5.size; first | (simp only [World.size_drew'] at e1 e3 ⊢; omega) | (simp only [World.size_alloc, World.size_drew'] at e1 e3 ⊢; omega))
      · (have e1 := hk2.size; have e3 := hk5.size; first | (simp only [World.size_drew'] at e1 e3 ⊢; omega) | (simp only [World.size_alloc, World.size_drew'] at e1 e3 ⊢; omega))
      · (have e1 := hk2.size; have e3 := hk5.size; first | (simp only [World.size_drew'] at e1 e3 ⊢; omega) | (simp only [World.size_alloc, World.size_drew'] at e1 e3 ⊢; omega))
    refine AllReadyH.cons (o := { dst := some 5, op := Op.alloc 24, type := 0, pos := "law.go:66", after := #[], guard := none }) rfl (fun K hK => ?_) (by exact AllReadyH.nil)
    rw [if_pos (by rfl)]
    go_simp
    refine hK.out _ _ (by (try dsimp only); (first | assumption | exact (Below.refl _ _).drew | exact (balloc (Below.refl _ _) _).drew | exact rstep (by assumption) (by assumption) | exact balloc (by assumption) _ | exact balloc (balloc (by assumption) _) _)) (fun hHeld => ?_)
    clear hK K
    simp only [List.setIfInBounds_toArray, List.set_cons_zero, List.set_cons_succ]
    refine wpAnyH_ready (rs := [2]) (by as_aux_lemma => kernel_rfl) (by simp) ?_
    refine AllReadyH.cons (o := { dst := some 9, op := Op.call { callee := Callee.value (Operand.func 9), args := #[Operand.tmp 7, Operand.tmp 8], argTypes := #[24, 24] }, type := 24, pos := "law.go:66", after := #[{ on := 0, ground := Ground.data }, { on := 1, ground := Ground.data }], guard := none }) rfl (fun K hK => ?_) (by exact AllReadyH.nil)
    rw [if_pos (by rfl)]
    go_simp
    (go_at_call 9; refine (div_all _ _ HA.out HB.out _).mono ?_; rintro e wk2 ⟨rfl, hk2⟩)
    refine hK.out _ _ (by (try dsimp only); (first | assumption | exact (Below.refl _ _).drew | exact (balloc (Below.refl _ _) _).drew | exact rstep (by assumption) (by assumption) | exact balloc (by assumption) _ | exact balloc (balloc (by assumption) _) _)) (fun hHeld => ?_)
    clear hK K
    simp only [List.setIfInBounds_toArray, List.set_cons_zero, List.set_cons_succ]
    refine wpAnyH_ready (rs := [5]) (by as_aux_lemma => kernel_rfl) (by simp) ?_
    refine AllReadyH.cons (o := { dst := some 12, op := Op.call { callee := Callee.value (Operand.func 10), args := #[Operand.tmp 10, Operand.tmp 11], argTypes := #[24, 24] }, type := 24, pos := "law.go:66", after := #[{ on := 3, ground := Ground.data }, { on := 4, ground := Ground.data }, { on := 2, ground := Ground.chain }], guard := none }) rfl (fun K hK => ?_) (by exact AllReadyH.nil)
    rw [if_pos (by rfl)]
    go_simp
    (go_at_call 10; refine (mod_all _ _ HA.out HB.out _).mono ?_; rintro e wk5 ⟨rfl, hk5⟩)
    refine hK.out _ _ (by (try dsimp only); (first | assumption | exact (Below.refl _ _).drew | exact (balloc (Below.refl _ _) _).drew | exact rstep (by assumption) (by assumption) | exact balloc (by assumption) _ | exact balloc (balloc (by assumption) _) _)) (fun hHeld => ?_)
    clear hK K
    simp only [List.setIfInBounds_toArray, List.set_cons_zero, List.set_cons_succ]
    refine rest _ _ _ ⟨?_, ?_, ?_, ?_, ?_, hHeld⟩
    · (repeat (first | exact Blk.new _ _ _ | exact Blk.newS _ _ _ _ | with_reducible refine Blk.drewR ?_ | with_reducible refine Blk.alloc ?_ _ | refine Blk.keep ?_ hk5 | refine Blk.keep ?_ hk2))
    · (repeat (first | exact Blk.new _ _ _ | exact Blk.newS _ _ _ _ | with_reducible refine Blk.drewR ?_ | with_reducible refine Blk.alloc ?_ _ | refine Blk.keep ?_ hk5 | refine Blk.keep ?_ hk2))
    · (have e1 := hk2.size; have e3 := hk5.size; first | (simp only [World.size_drew'] at e1 e3 ⊢; omega) | (simp only [World.size_alloc, World.size_drew'] at e1 e3 ⊢; omega))
    · (have e1 := hk2.size; have e3 := hk5.size; first | (simp only [World.size_drew'] at e1 e3 ⊢; omega) | (simp only [World.size_alloc, World.size_drew'] at e1 e3 ⊢; omega))
    · (have e1 := hk2.size; have e3 := hk5.size; first | (simp only [World.size_drew'] at e1 e3 ⊢; omega) | (simp only [World.size_alloc, World.size_drew'] at e1 e3 ⊢; omega))
  case hrest =>
    intro X Y wz ⟨z1, z2, z3, z4, z5, z6⟩
    refine wpAnyH_ready (rs := [8]) (by as_aux_lemma => kernel_rfl) (by simp) ?_
    refine AllReadyH.cons (o := { dst := none, op := Op.store 24 (Operand.tmp 5) (Operand.tmp 9), type := 0, pos := "law.go:66", after := #[{ on := 6, ground := Ground.data }, { on := 2, ground := Ground.data }, { on := 5, ground := Ground.chain }, { on := 0, ground := Ground.phase }, { on := 1, ground := Ground.phase }, { on := 2, ground := Ground.phase }, { on := 3, ground := Ground.textOnly Departure.lateStores }, { on := 4, ground := Ground.textOnly Departure.lateStores }, { on := 5, ground := Ground.textOnly Departure.lateStoresUnsure }, { on := 6, ground := Ground.phase }, { on := 7, ground := Ground.phase }], guard := none }) rfl (fun K hK => ?_) (by exact AllReadyH.nil)
    rw [if_pos (by rfl)]
    refine wp_store_mid 24 (.tmp 5) (.tmp 9) rfl X 0 (Wc (a / b)) rfl rfl (z1.there _ (Nat.le_refl 4)) HI.out (wc_one _) (hK.out _ _ (below_setCells' z4 _ 0 wz z6) (fun hHeld => ?_))
    have z7 := blk_setCells z1 (Wc (a / b)) rfl (wc_one _)
    have z8 := blk_setCells_far z2 X 0 (Wc (a / b)).toList z3.symm
    clear z1 z2 z6
    generalize wz.setCells X 0 (Wc (a / b)).toList = wy at z7 z8 hHeld ⊢
    clear hK K
    simp only [Act.put, List.setIfInBounds_toArray, List.set_cons_zero, List.set_cons_succ]
    refine wpAnyH_ready (rs := [9]) (by as_aux_lemma => kernel_rfl) (by simp) ?_
    refine AllReadyH.cons (o := { dst := none, op := Op.store 24 (Operand.tmp 6) (Operand.tmp 12), type := 0, pos := "law.go:66", after := #[{ on := 7, ground := Ground.data }, { on := 5, ground := Ground.data }, { on := 8, ground := Ground.chain }, { on := 0, ground := Ground.phase }, { on := 1, ground := Ground.phase }, { on := 2, ground := Ground.phase }, { on := 3, ground := Ground.phase }, { on := 4, ground := Ground.phase }, { on := 5, ground := Ground.phase }, { on := 6, ground := Ground.phase }, { on := 7, ground := Ground.phase }, { on := 8, ground := Ground.phase }], guard := none }) rfl (fun K hK => ?_) (by exact AllReadyH.nil)
    rw [if_pos (by rfl)]
    refine wp_store_mid 24 (.tmp 6) (.tmp 12) rfl Y 0 (Wc (mdN a b)) rfl rfl (z8.there _ (Nat.le_refl 4)) HI.out (wc_one _) (hK.out _ _ (below_setCells' z5 _ 0 wy hHeld) (fun hHeld => ?_))
    have z9 := blk_setCells z8 (Wc (mdN a b)) rfl (wc_one _)
    have z10 := blk_setCells_far z7 Y 0 (Wc (mdN a b)).toList z3
    clear z7 z8
    generalize wy.setCells Y 0 (Wc (mdN a b)).toList = wx at z9 z10 hHeld ⊢
    clear hK K
    simp only [Act.put, List.setIfInBounds_toArray, List.set_cons_zero, List.set_cons_succ]
    refine wpAnyH_done (by as_aux_lemma => kernel_rfl) ?_ _
    exact key X Y wx z4 z5 z10 z9 hHeld
end Go.Proofs.Ytopnkkdbimmlhaa
