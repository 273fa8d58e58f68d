/- The reference of layer word: Mul, by a contract. -/
import Derived.Test.YtopnkkdbimmlhaaWw
import Derived.Deep.QuietTactic
import Derived.BigQuiet
namespace Go.Proofs.Ytopnkkdbimmlhaa
open Go.RowKit
attribute [local go_sem] ix0 ix1 ix2 ix3

/-! One row of the product: S + 256^i * (d * b), byte by byte. -/
def cyM (S d b i k : Nat) : Nat := (S % 256 ^ (i + k) + 256 ^ i * (d * (b % 256 ^ k))) / 256 ^ (i + k)
theorem cyM_zero (S d b i : Nat) : cyM S d b i 0 = 0 := by
  unfold cyM
  rw [Nat.pow_zero, Nat.mod_one, Nat.mul_zero, Nat.mul_zero, Nat.add_zero, Nat.add_zero]
  exact Nat.div_eq_of_lt (Nat.mod_lt _ (p256_pos i))
theorem mul_mid (Q d x y : Nat) : Q * (d * (x + y)) = Q * (d * x) + Q * (d * y) := by rw [Nat.mul_add, Nat.mul_add]
theorem row_next (S d b i k : Nat) : S % 256 ^ (i + (k + 1)) + 256 ^ i * (d * (b % 256 ^ (k + 1))) = (S % 256 ^ (i + k) + 256 ^ i * (d * (b % 256 ^ k))) + 256 ^ (i + k) * (byA S (i + k) + d * byA b k) := by
  unfold byA
  rw [← Nat.add_assoc i k 1, mod_succ256 S (i + k), mod_succ256 b k, mul_mid, Nat.mul_add (256 ^ (i + k))]
  have e : 256 ^ i * (d * (256 ^ k * (b / 256 ^ k % 256))) = 256 ^ (i + k) * (d * (b / 256 ^ k % 256)) := by
    rw [Nat.pow_add, Nat.mul_assoc, Nat.mul_left_comm d]
  rw [e]; omega
theorem cyM_succ (S d b i k : Nat) : (cyM S d b i k + byA S (i + k) + d * byA b k) / 256 = cyM S d b i (k + 1) := by
  unfold cyM
  rw [row_next, ← Nat.add_assoc i k 1, Nat.pow_succ 256 (i + k), ← Nat.div_div_eq_div_mul, Nat.add_mul_div_left _ _ (p256_pos _), Nat.add_assoc]
theorem byA_row (S d b i k : Nat) : (cyM S d b i k + byA S (i + k) + d * byA b k) % 256 = byA (S + 256 ^ i * (d * b)) (i + k) := by
  have hS := Nat.div_add_mod S (256 ^ (i + (k + 1)))
  have hb := Nat.div_add_mod b (256 ^ (k + 1))
  generalize S / 256 ^ (i + (k + 1)) = q at hS
  generalize b / 256 ^ (k + 1) = q2 at hb
  have e : S + 256 ^ i * (d * b) = (S % 256 ^ (i + k) + 256 ^ i * (d * (b % 256 ^ k))) + 256 ^ (i + k) * (byA S (i + k) + d * byA b k + 256 * (q + d * q2)) := by
    have h1 := row_next S d b i k
    have h2 : 256 ^ i * (d * b) = 256 ^ i * (d * (b % 256 ^ (k + 1))) + 256 ^ (i + k) * (256 * (d * q2)) := by
      conv => lhs; rw [← hb]
      rw [Nat.add_comm, mul_mid]
      congr 1
      rw [Nat.pow_succ, Nat.pow_add, Nat.mul_assoc (256 ^ k), Nat.mul_left_comm d, Nat.mul_left_comm d, Nat.mul_assoc]
    have h3 : 256 ^ (i + (k + 1)) * q = 256 ^ (i + k) * (256 * q) := by
      rw [← Nat.add_assoc, Nat.pow_succ, Nat.mul_assoc]
    have h4 := Nat.mul_add (256 ^ (i + k)) (byA S (i + k) + d * byA b k) (256 * (q + d * q2))
    have h5 : 256 ^ (i + k) * (256 * (q + d * q2)) = 256 ^ (i + k) * (256 * q) + 256 ^ (i + k) * (256 * (d * q2)) := by rw [Nat.mul_add 256, Nat.mul_add]
    rw [h4, h5, h2]
    omega
  unfold byA cyM at *
  rw [e, Nat.add_mul_div_left _ _ (p256_pos _)]
  omega
theorem cyM_lt (S d b i k : Nat) (hd : d < 256) : cyM S d b i k < 256 := by
  unfold cyM
  apply Nat.div_lt_of_lt_mul
  have h1 := Nat.mod_lt S (p256_pos (i + k))
  have h2 := Nat.mod_lt b (p256_pos k)
  have h3 : d * (b % 256 ^ k) ≤ 255 * 256 ^ k := Nat.mul_le_mul (by omega) (by omega)
  have h4 : 256 ^ i * (d * (b % 256 ^ k)) ≤ 256 ^ i * (255 * 256 ^ k) := Nat.mul_le_mul_left _ h3
  have h5 : 256 ^ i * (255 * 256 ^ k) = 255 * 256 ^ (i + k) := by rw [Nat.mul_left_comm, ← Nat.pow_add]
  omega
/-- The bytes below the row's place stay. -/
theorem byA_low (S T i q : Nat) (hq : q < i) : byA (S + 256 ^ i * T) q = byA S q := by
  unfold byA
  have e : 256 ^ i * T = 256 ^ q * (256 * (256 ^ (i - q - 1) * T)) := by
    rw [← Nat.mul_assoc, ← Nat.mul_assoc, ← Nat.pow_succ, ← Nat.pow_add]; congr 2; omega
  rw [e, Nat.add_mul_div_left _ _ (p256_pos _)]; omega
theorem adC_low (S T i : Nat) : adC S (256 ^ i * T) i = byC S 32 := by
  apply Array.ext_getElem?
  intro p
  by_cases hp : p < 32
  · rw [adC_get _ _ _ _ hp, byC_get _ _ _ hp, if_pos (by omega : 31 - p < 32)]
    by_cases h : 31 - p < i
    · rw [if_pos h, byA_low _ _ _ _ h]
    · rw [if_neg h]
  · rw [Array.getElem?_eq_none (by rw [adC_size]; omega), Array.getElem?_eq_none (by rw [byC_size]; omega)]
/-- The rows: what a's low bytes come to. -/
theorem rows_next (a b i : Nat) : a % 256 ^ i * b + 256 ^ i * (byA a i * b) = a % 256 ^ (i + 1) * b := by
  unfold byA
  rw [mod_succ256, Nat.add_mul, Nat.mul_assoc]
theorem rows_all (a b : Nat) : a % 256 ^ 32 * b % MM = a * b % MM := by
  rw [← MM_256, Nat.mod_mul_mod]
theorem byC_nought : byC 0 32 = byC 0 0 := by
  apply Array.ext_getElem?
  intro p
  by_cases hp : p < 32
  · rw [byC_get _ _ _ hp, byC_get _ _ _ hp, if_neg (by omega : ¬ 31 - p < 0)]
    split <;> simp [byA]
  · rw [Array.getElem?_eq_none (by rw [byC_size]; omega), Array.getElem?_eq_none (by rw [byC_size]; omega)]
theorem byA_mod (a k : Nat) (h : k < 32) : byA (a % MM) k = byA a k := by
  unfold byA
  have e : MM = 256 ^ k * (256 * 256 ^ (31 - k)) := by
    rw [MM_256, ← Nat.mul_assoc, ← Nat.pow_succ, ← Nat.pow_add]; congr 1; omega
  rw [e, Nat.mod_mul_right_div_self, Nat.mod_mul_right_mod]
theorem byC_congr {a b : Nat} (h : a % MM = b % MM) : byC a 32 = byC b 32 := by
  apply Array.ext_getElem?
  intro p
  by_cases hp : p < 32
  · rw [byC_get _ _ _ hp, byC_get _ _ _ hp, ← byA_mod a _ (by omega), ← byA_mod b _ (by omega), h]
  · rw [Array.getElem?_eq_none (by rw [byC_size]; omega), Array.getElem?_eq_none (by rw [byC_size]; omega)]

set_option maxRecDepth 100000 in
set_option maxHeartbeats 4000000 in
theorem rmul_any (a b : Nat) (w : World) :
    Calls Try.prog 29 #[W a, W b] w fun e w' => e = .returned (W (a * b)) ∧ Below w.heap.size w w' := by
  have hi : ∀ c : Nat, (Try.prog.info? 65).map (·.size) = some (byC c 32).size := fun c => by rw [byC_size]; kernel_rfl
  have HI := fun c => Lib.hid (hi c)
  clear hi
  go_enter Try.func29, Try.ntmps29
  go_wp2_with fail
  have A : Blk (((w.alloc (.cells (Wc a) 24)).alloc (.cells (Wc b) 24)).alloc (.cells (Wc 0) 24)) w.heap.size 24 (Wc a) := ((Blk.new _ _ _).alloc _).alloc _
  have B : Blk (((w.alloc (.cells (Wc a) 24)).alloc (.cells (Wc b) 24)).alloc (.cells (Wc 0) 24)) (w.heap.size + 1) 24 (Wc b) := (Blk.newS w _ _ _).alloc _
  have R : Blk (((w.alloc (.cells (Wc a) 24)).alloc (.cells (Wc b) 24)).alloc (.cells (Wc 0) 24)) (w.heap.size + 1 + 1) 24 (Wc 0) := by
    have h := Blk.newS (w.alloc (.cells (Wc a) 24)) (.cells (Wc b) 24) 24 (Wc 0)
    rwa [World.size_alloc] at h
  have hW : Below w.heap.size w (((w.alloc (.cells (Wc a) 24)).alloc (.cells (Wc b) 24)).alloc (.cells (Wc 0) 24)) := balloc (balloc (balloc (Below.refl _ _) _) _) _
  have e0 : Wc 0 = #[.int .u64 0, .int .u64 0, .int .u64 0, .int .u64 0] := by unfold Wc; simp only [lb_zero]
  obtain ⟨W0, hW0⟩ : ∃ W0, ((w.alloc (.cells (Wc a) 24)).alloc (.cells (Wc b) 24)).alloc (.cells (Wc 0) 24) = W0 := ⟨_, rfl⟩
  rw [hW0] at A B R hW
  rw [e0] at hW0
  rw [hW0]
  clear hW0 e0
  have cA0 : ∀ w', Below W0.heap.size W0 w' → w'.cell? ⟨w.heap.size, 0, none⟩ = some (.int .u64 (lb a 0)) := fun w' h => (h.cell (p := ⟨w.heap.size, 0, none⟩) A.lt).trans (cell_of_row _ _ 0 _ _ _ A)
  have cA1 : ∀ w', Below W0.heap.size W0 w' → w'.cell? ⟨w.heap.size, 1, none⟩ = some (.int .u64 (lb a 1)) := fun w' h => (h.cell (p := ⟨w.heap.size, 1, none⟩) A.lt).trans (cell_of_row _ _ 1 _ _ _ A)
  have cA2 : ∀ w', Below W0.heap.size W0 w' → w'.cell? ⟨w.heap.size, 2, none⟩ = some (.int .u64 (lb a 2)) := fun w' h => (h.cell (p := ⟨w.heap.size, 2, none⟩) A.lt).trans (cell_of_row _ _ 2 _ _ _ A)
  have cA3 : ∀ w', Below W0.heap.size W0 w' → w'.cell? ⟨w.heap.size, 3, none⟩ = some (.int .u64 (lb a 3)) := fun w' h => (h.cell (p := ⟨w.heap.size, 3, none⟩) A.lt).trans (cell_of_row _ _ 3 _ _ _ A)
  have cB0 : ∀ w', Below W0.heap.size W0 w' → w'.cell? ⟨w.heap.size + 1, 0, none⟩ = some (.int .u64 (lb b 0)) := fun w' h => (h.cell (p := ⟨w.heap.size + 1, 0, none⟩) B.lt).trans (cell_of_row _ _ 0 _ _ _ B)
  have cB1 : ∀ w', Below W0.heap.size W0 w' → w'.cell? ⟨w.heap.size + 1, 1, none⟩ = some (.int .u64 (lb b 1)) := fun w' h => (h.cell (p := ⟨w.heap.size + 1, 1, none⟩) B.lt).trans (cell_of_row _ _ 1 _ _ _ B)
  have cB2 : ∀ w', Below W0.heap.size W0 w' → w'.cell? ⟨w.heap.size + 1, 2, none⟩ = some (.int .u64 (lb b 2)) := fun w' h => (h.cell (p := ⟨w.heap.size + 1, 2, none⟩) B.lt).trans (cell_of_row _ _ 2 _ _ _ B)
  have cB3 : ∀ w', Below W0.heap.size W0 w' → w'.cell? ⟨w.heap.size + 1, 3, none⟩ = some (.int .u64 (lb b 3)) := fun w' h => (h.cell (p := ⟨w.heap.size + 1, 3, none⟩) B.lt).trans (cell_of_row _ _ 3 _ _ _ B)
  have HR := Lib.hid R
  have HW := Lib.hid hW
  have hRl := R.lt
  clear A B R hW
  refine join2 (C := fun X Y wz => Blk wz X 65 (byC 0 0) ∧ Blk wz Y 65 (byC 0 0) ∧ X ≠ Y ∧ W0.heap.size ≤ X ∧ W0.heap.size ≤ Y ∧ Below W0.heap.size W0 wz) ?PJ ?main ?hrest
  case main =>
    intro rest
    refine wp_region_held_drew (S := fun w' => Below W0.heap.size W0 w') (by as_aux_lemma => kernel_rfl) (Below.refl _ _).drew (fun hHeld => ?_)
    simp only [List.size_toArray, List.length_cons, List.length_nil, Nat.reduceAdd, Array.replicate_succ, Array.replicate_zero, List.push_toArray, List.nil_append, List.cons_append]
    refine wpAnyH_take (i := 0) (oi := { dst := some 11, op := Op.load 24 (Operand.tmp 2), type := 24, pos := "ref.go:56", after := #[], guard := none }) (v := ?vq0) rfl (by as_aux_lemma => kernel_rfl) (by as_aux_lemma => kernel_rfl) (by as_aux_lemma => kernel_rfl) (fun _ _ _ h => h) (Or.inl ⟨by rfl, ?yq0⟩) (by assumption) ?rq0
    case yq0 => (intro w hSw; (try dsimp only at hSw); go_simp <;> with_reducible rfl)
    simp only [Act.put, List.setIfInBounds_toArray, List.set_cons_zero, List.set_cons_succ]
    refine wpAnyH_take (i := 2) (oi := { dst := some 13, op := Op.load 24 (Operand.tmp 3), type := 24, pos := "ref.go:56", after := #[], guard := none }) (v := ?vq1) rfl (by as_aux_lemma => kernel_rfl) (by as_aux_lemma => kernel_rfl) (by as_aux_lemma => kernel_rfl) (fun _ _ _ h => h) (Or.inl ⟨by rfl, ?yq1⟩) (by assumption) ?rq1
    case yq1 => (intro w hSw; (try dsimp only at hSw); go_simp <;> with_reducible rfl)
    simp only [Act.put, List.setIfInBounds_toArray, List.set_cons_zero, List.set_cons_succ]
    refine wpAnyH_ready (rs := [1, 4, 5]) (by as_aux_lemma => kernel_rfl) (by simp) ?_
    refine AllReadyH.cons (o := { dst := some 12, op := Op.call { callee := Callee.value (Operand.func 47), args := #[Operand.tmp 11], argTypes := #[24] }, type := 65, pos := "ref.go:56", after := #[{ on := 0, ground := Ground.data }], guard := none }) rfl (fun K hK => ?_) ?_
    · go_simp
      (go_at_call 47; refine (rbytes_any _ _).mono ?_; rintro e wk1 ⟨rfl, hk1⟩)
      refine hK.out _ _ (by (try dsimp only); (first | assumption | exact (Below.refl _ _).drew | exact (balloc (Below.refl _ _) _).drew | exact rstep (by assumption) (by assumption) | exact balloc (by assumption) _ | exact balloc (balloc (by assumption) _) _)) (fun hHeld => ?_)
      clear hK K
      simp only [List.setIfInBounds_toArray, List.set_cons_zero, List.set_cons_succ]
      refine wpAnyH_ready (rs := [3, 4, 5]) (by as_aux_lemma => kernel_rfl) (by simp) ?_
      refine AllReadyH.cons (o := { dst := some 14, op := Op.call { callee := Callee.value (Operand.func 47), args := #[Operand.tmp 13], argTypes := #[24] }, type := 65, pos := "ref.go:56", after := #[{ on := 2, ground := Ground.data }, { on := 1, ground := Ground.chain }], guard := none }) rfl (fun K hK => ?_) ?_
      · go_simp
        (go_at_call 47; refine (rbytes_any _ _).mono ?_; rintro e wk3 ⟨rfl, hk3⟩)
        refine hK.out _ _ (by (try dsimp only); (first | assumption | exact (Below.refl _ _).drew | exact (balloc (Below.refl _ _) _).drew | exact rstep (by assumption) (by assumption) | exact balloc (by assumption) _ | exact balloc (balloc (by assumption) _) _)) (fun hHeld => ?_)
        clear hK K
        simp only [List.setIfInBounds_toArray, List.set_cons_zero, List.set_cons_succ]
        refine wpAnyH_ready (rs := [4, 5]) (by as_aux_lemma => kernel_rfl) (by simp) ?_
        refine AllReadyH.cons (o := { dst := some 5, op := Op.alloc 65, type := 0, pos := "ref.go:56", after := #[], guard := none }) rfl (fun K hK => ?_) ?_
        · go_simp
          refine hK.out _ _ (by (try dsimp only); (first | assumption | exact (Below.refl _ _).drew | exact (balloc (Below.refl _ _) _).drew | exact rstep (by assumption) (by assumption) | exact balloc (by assumption) _ | exact balloc (balloc (by assumption) _) _)) (fun hHeld => ?_)
          clear hK K
          simp only [List.setIfInBounds_toArray, List.set_cons_zero, List.set_cons_succ]
          refine wpAnyH_ready (rs := [5]) (by as_aux_lemma => kernel_rfl) (by simp) ?_
          refine AllReadyH.cons (o := { dst := some 6, op := Op.alloc 65, type := 0, pos := "ref.go:56", after := #[], guard := none }) rfl (fun K hK => ?_) (by exact AllReadyH.nil)
          go_simp
          refine hK.out _ _ (by (try dsimp only); (first | assumption | exact (Below.refl _ _).drew | exact (balloc (Below.refl _ _) _).drew | exact rstep (by assumption) (by assumption) | exact balloc (by assumption) _ | exact balloc (balloc (by assumption) _) _)) (fun hHeld => ?_)
          clear hK K
          simp only [List.setIfInBounds_toArray, List.set_cons_zero, List.set_cons_succ]
          have z1 : Blk ((wk3.alloc (.cells (byC 0 0) 65)).alloc (.cells (byC 0 0) 65)) wk3.heap.size 65 (byC 0 0) := (Blk.new _ _ _).alloc _
          have z2 : Blk ((wk3.alloc (.cells (byC 0 0) 65)).alloc (.cells (byC 0 0) 65)) (wk3.heap.size + 1) 65 (byC 0 0) := Blk.newS _ _ _ _
          have z3 : wk3.heap.size ≠ wk3.heap.size + 1 := by omega
          have z4 : W0.heap.size ≤ wk3.heap.size := by (have e1 := hk1.size; have e3 := hk3.size; first | (simp only [World.size_drew'] at e1 e3 ⊢; omega) | (simp only [World.size_alloc, World.size_drew'] at e1 e3 ⊢; omega))
          have z5 : W0.heap.size ≤ wk3.heap.size + 1 := by omega
          rw [byC_zero 0] at z1 z2
          have z6 := hHeld
          clear hHeld
          generalize ((wk3.alloc _).alloc _) = wz at z1 z2 z6 ⊢
          generalize wk3.heap.size + 1 = Y at z2 z3 z5 ⊢
          generalize wk3.heap.size = X at z1 z3 z4 ⊢
          rw [← byC_zero 0] at z1 z2
          exact rest X Y wz ⟨z1, z2, z3, z4, z5, z6⟩
        refine AllReadyH.cons (o := { dst := some 6, op := Op.alloc 65, type := 0, pos := "ref.go:56", after := #[], guard := none }) rfl (fun K hK => ?_) (by exact AllReadyH.nil)
        go_simp
        refine hK.out _ _ (by (try dsimp only); (first | assumption | exact (Below.refl _ _).drew | exact (balloc (Below.refl _ _) _).drew | exact rstep (by assumption) (by assumption) | exact balloc (by assumption) _ | exact balloc (balloc (by assumption) _) _)) (fun hHeld => ?_)
        clear hK K
        simp only [List.setIfInBounds_toArray, List.set_cons_zero, List.set_cons_succ]
        refine wpAnyH_ready (rs := [4]) (by as_aux_lemma => kernel_rfl) (by simp) ?_
        refine AllReadyH.cons (o := { dst := some 5, op := Op.alloc 65, type := 0, pos := "ref.go:56", after := #[], guard := none }) rfl (fun K hK => ?_) (by exact AllReadyH.nil)
        go_simp
        refine hK.out _ _ (by (try dsimp only); (first | assumption | exact (Below.refl _ _).drew | exact (balloc (Below.refl _ _) _).drew | exact rstep (by assumption) (by assumption) | exact balloc (by assumption) _ | exact balloc (balloc (by assumption) _) _)) (fun hHeld => ?_)
        clear hK K
        simp only [List.setIfInBounds_toArray, List.set_cons_zero, List.set_cons_succ]
        refine rest _ _ _ ⟨?_, ?_, ?_, ?_, ?_, hHeld⟩
        · (rw [byC_zero]; repeat (first | exact Blk.new _ _ _ | exact Blk.newS _ _ _ _ | with_reducible refine Blk.drewR ?_ | with_reducible refine Blk.alloc ?_ _ | refine Blk.keep ?_ hk3 | refine Blk.keep ?_ hk1))
        · (rw [byC_zero]; repeat (first | exact Blk.new _ _ _ | exact Blk.newS _ _ _ _ | with_reducible refine Blk.drewR ?_ | with_reducible refine Blk.alloc ?_ _ | refine Blk.keep ?_ hk3 | refine Blk.keep ?_ hk1))
        · (have e1 := hk1.size; have e3 := hk3.size; first | (simp only [World.size_drew'] at e1 e3 ⊢; omega) | (simp only [World.size_alloc, World.size_drew'] at e1 e3 ⊢; omega))
        · (have e1 := hk1.size; have e3 := hk3.size; first | (simp only [World.size_drew'] at e1 e3 ⊢; omega) | (simp only [World.size_alloc, World.size_drew'] at e1 e3 ⊢; omega))
        · (have e1 := hk1.size; have e3 := hk3.size; first | (simp only [World.size_drew'] at e1 e3 ⊢; omega) | (simp only [World.size_alloc, World.size_drew'] at e1 e3 ⊢; omega))
      refine AllReadyH.cons (o := { dst := some 5, op := Op.alloc 65, type := 0, pos := "ref.go:56", after := #[], guard := none }) rfl (fun K hK => ?_) ?_
      · go_simp
        refine hK.out _ _ (by (try dsimp only); (first | assumption | exact (Below.refl _ _).drew | exact (balloc (Below.refl _ _) _).drew | exact rstep (by assumption) (by assumption) | exact balloc (by assumption) _ | exact balloc (balloc (by assumption) _) _)) (fun hHeld => ?_)
        clear hK K
        simp only [List.setIfInBounds_toArray, List.set_cons_zero, List.set_cons_succ]
        refine wpAnyH_ready (rs := [3, 5]) (by as_aux_lemma => kernel_rfl) (by simp) ?_
        refine AllReadyH.cons (o := { dst := some 14, op := Op.call { callee := Callee.value (Operand.func 47), args := #[Operand.tmp 13], argTypes := #[24] }, type := 65, pos := "ref.go:56", after := #[{ on := 2, ground := Ground.data }, { on := 1, ground := Ground.chain }], guard := none }) rfl (fun K hK => ?_) ?_
        · go_simp
          (go_at_call 47; refine (rbytes_any _ _).mono ?_; rintro e wk3 ⟨rfl, hk3⟩)
          refine hK.out _ _ (by (try dsimp only); (first | assumption | exact (Below.refl _ _).drew | exact (balloc (Below.refl _ _) _).drew | exact rstep (by assumption) (by assumption) | exact balloc (by assumption) _ | exact balloc (balloc (by assumption) _) _)) (fun hHeld => ?_)
          clear hK K
          simp only [List.setIfInBounds_toArray, List.set_cons_zero, List.set_cons_succ]
          refine wpAnyH_ready (rs := [5]) (by as_aux_lemma => kernel_rfl) (by simp) ?_
          refine AllReadyH.cons (o := { dst := some 6, op := Op.alloc 65, type := 0, pos := "ref.go:56", after := #[], guard := none }) rfl (fun K hK => ?_) (by exact AllReadyH.nil)
          go_simp
          refine hK.out _ _ (by (try dsimp only); (first | assumption | exact (Below.refl _ _).drew | exact (balloc (Below.refl _ _) _).drew | exact rstep (by assumption) (by assumption) | exact balloc (by assumption) _ | exact balloc (balloc (by assumption) _) _)) (fun hHeld => ?_)
          clear hK K
          simp only [List.setIfInBounds_toArray, List.set_cons_zero, List.set_cons_succ]
          refine rest _ _ _ ⟨?_, ?_, ?_, ?_, ?_, hHeld⟩
          · (rw [byC_zero]; repeat (first | exact Blk.new _ _ _ | exact Blk.newS _ _ _ _ | with_reducible refine Blk.drewR ?_ | with_reducible refine Blk.alloc ?_ _ | refine Blk.keep ?_ hk3 | refine Blk.keep ?_ hk1))
          · (rw [byC_zero]; repeat (first | exact Blk.new _ _ _ | exact Blk.newS _ _ _ _ | with_reducible refine Blk.drewR ?_ | with_reducible refine Blk.alloc ?_ _ | refine Blk.keep ?_ hk3 | refine Blk.keep ?_ hk1))
          · (have e1 := hk1.size; have e3 := hk3.size; first | (simp only [World.size_drew'] at e1 e3 ⊢; omega) | (simp only [World.size_alloc, World.size_drew'] at e1 e3 ⊢; omega))
          · (have e1 := hk1.size; have e3 := hk3.size; first | (simp only [World.size_drew'] at e1 e3 ⊢; omega) | (simp only [World.size_alloc, World.size_drew'] at e1 e3 ⊢; omega))
          · (have e1 := hk1.size; have e3 := hk3.size; first | (simp only [World.size_drew'] at e1 e3 ⊢; omega) | (simp only [World.size_alloc, World.size_drew'] at e1 e3 ⊢; omega))
        refine AllReadyH.cons (o := { dst := some 6, op := Op.alloc 65, type := 0, pos := "ref.go:56", after := #[], guard := none }) rfl (fun K hK => ?_) (by exact AllReadyH.nil)
        go_simp
        refine hK.out _ _ (by (try dsimp only); (first | assumption | exact (Below.refl _ _).drew | exact (balloc (Below.refl _ _) _).drew | exact rstep (by assumption) (by assumption) | exact balloc (by assumption) _ | exact balloc (balloc (by assumption) _) _)) (fun hHeld => ?_)
        clear hK K
        simp only [List.setIfInBounds_toArray, List.set_cons_zero, List.set_cons_succ]
        refine wpAnyH_ready (rs := [3]) (by as_aux_lemma => kernel_rfl) (by simp) ?_
        refine AllReadyH.cons (o := { dst := some 14, op := Op.call { callee := Callee.value (Operand.func 47), args := #[Operand.tmp 13], argTypes := #[24] }, type := 65, pos := "ref.go:56", after := #[{ on := 2, ground := Ground.data }, { on := 1, ground := Ground.chain }], guard := none }) rfl (fun K hK => ?_) (by exact AllReadyH.nil)
        go_simp
        (go_at_call 47; refine (rbytes_any _ _).mono ?_; rintro e wk3 ⟨rfl, hk3⟩)
        refine hK.out _ _ (by (try dsimp only); (first | assumption | exact (Below.refl _ _).drew | exact (balloc (Below.refl _ _) _).drew | exact rstep (by assumption) (by assumption) | exact balloc (by assumption) _ | exact balloc (balloc (by assumption) _) _)) (fun hHeld => ?_)
        clear hK K
        simp only [List.setIfInBounds_toArray, List.set_cons_zero, List.set_cons_succ]
        refine rest _ _ _ ⟨?_, ?_, ?_, ?_, ?_, hHeld⟩
        · (rw [byC_zero]; repeat (first | exact Blk.new _ _ _ | exact Blk.newS _ _ _ _ | with_reducible refine Blk.drewR ?_ | with_reducible refine Blk.alloc ?_ _ | refine Blk.keep ?_ hk3 | refine Blk.keep ?_ hk1))
        · (rw [byC_zero]; repeat (first | exact Blk.new _ _ _ | exact Blk.newS _ _ _ _ | with_reducible refine Blk.drewR ?_ | with_reducible refine Blk.alloc ?_ _ | refine Blk.keep ?_ hk3 | refine Blk.keep ?_ hk1))
        · (have e1 := hk1.size; have e3 := hk3.size; first | (simp only [World.size_drew'] at e1 e3 ⊢; omega) | (simp only [World.size_alloc, World.size_drew'] at e1 e3 ⊢; omega))
        · (have e1 := hk1.size; have e3 := hk3.size; first | (simp only [World.size_drew'] at e1 e3 ⊢; omega) | (simp only [World.size_alloc, World.size_drew'] at e1 e3 ⊢; omega))
        · (have e1 := hk1.size; have e3 := hk3.size; first | (simp only [World.size_drew'] at e1 e3 ⊢; omega) | (simp only [World.size_alloc, World.size_drew'] at e1 e3 ⊢; omega))
      refine AllReadyH.cons (o := { dst := some 6, op := Op.alloc 65, type := 0, pos := "ref.go:56", after := #[], guard := none }) rfl (fun K hK => ?_) (by exact AllReadyH.nil)
      go_simp
      refine hK.out _ _ (by (try dsimp only); (first | assumption | exact (Below.refl _ _).drew | exact (balloc (Below.refl _ _) _).drew | exact rstep (by assumption) (by assumption) | exact balloc (by assumption) _ | exact balloc (balloc (by assumption) _) _)) (fun hHeld => ?_)
      clear hK K
      simp only [List.setIfInBounds_toArray, List.set_cons_zero, List.set_cons_succ]
      refine wpAnyH_ready (rs := [3, 4]) (by as_aux_lemma => kernel_rfl) (by simp) ?_
      refine AllReadyH.cons (o := { dst := some 14, op := Op.call { callee := Callee.value (Operand.func 47), args := #[Operand.tmp 13], argTypes := #[24] }, type := 65, pos := "ref.go:56", after := #[{ on := 2, ground := Ground.data }, { on := 1, ground := Ground.chain }], guard := none }) rfl (fun K hK => ?_) ?_
      · go_simp
        (go_at_call 47; refine (rbytes_any _ _).mono ?_; rintro e wk3 ⟨rfl, hk3⟩)
        refine hK.out _ _ (by (try dsimp only); (first | assumption | exact (Below.refl _ _).drew | exact (balloc (Below.refl _ _) _).drew | exact rstep (by assumption) (by assumption) | exact balloc (by assumption) _ | exact balloc (balloc (by assumption) _) _)) (fun hHeld => ?_)
        clear hK K
        simp only [List.setIfInBounds_toArray, List.set_cons_zero, List.set_cons_succ]
        refine wpAnyH_ready (rs := [4]) (by as_aux_lemma => kernel_rfl) (by simp) ?_
        refine AllReadyH.cons (o := { dst := some 5, op := Op.alloc 65, type := 0, pos := "ref.go:56", after := #[], guard := none }) rfl (fun K hK => ?_) (by exact AllReadyH.nil)
        go_simp
        refine hK.out _ _ (by (try dsimp only); (first | assumption | exact (Below.refl _ _).drew | exact (balloc (Below.refl _ _) _).drew | exact rstep (by assumption) (by assumption) | exact balloc (by assumption) _ | exact balloc (balloc (by assumption) _) _)) (fun hHeld => ?_)
        clear hK K
        simp only [List.setIfInBounds_toArray, List.set_cons_zero, List.set_cons_succ]
        refine rest _ _ _ ⟨?_, ?_, ?_, ?_, ?_, hHeld⟩
        · (rw [byC_zero]; repeat (first | exact Blk.new _ _ _ | exact Blk.newS _ _ _ _ | with_reducible refine Blk.drewR ?_ | with_reducible refine Blk.alloc ?_ _ | refine Blk.keep ?_ hk3 | refine Blk.keep ?_ hk1))
        · (rw [byC_zero]; repeat (first | exact Blk.new _ _ _ | exact Blk.newS _ _ _ _ | with_reducible refine Blk.drewR ?_ | with_reducible refine Blk.alloc ?_ _ | refine Blk.keep ?_ hk3 | refine Blk.keep ?_ hk1))
        · (have e1 := hk1.size; have e3 := hk3.size; first | (simp only [World.size_drew'] at e1 e3 ⊢; omega) | (simp only [World.size_alloc, World.size_drew'] at e1 e3 ⊢; omega))
        · (have e1 := hk1.size; have e3 := hk3.size; first | (simp only [World.size_drew'] at e1 e3 ⊢; omega) | (simp only [World.size_alloc, World.size_drew'] at e1 e3 ⊢; omega))
        · (have e1 := hk1.size; have e3 := hk3.size; first | (simp only [World.size_drew'] at e1 e3 ⊢; omega) | (simp only [World.size_alloc, World.size_drew'] at e1 e3 ⊢; omega))
      refine AllReadyH.cons (o := { dst := some 5, op := Op.alloc 65, type := 0, pos := "ref.go:56", after := #[], guard := none }) rfl (fun K hK => ?_) (by exact AllReadyH.nil)
      go_simp
      refine hK.out _ _ (by (try dsimp only); (first | assumption | exact (Below.refl _ _).drew | exact (balloc (Below.refl _ _) _).drew | exact rstep (by assumption) (by assumption) | exact balloc (by assumption) _ | exact balloc (balloc (by assumption) _) _)) (fun hHeld => ?_)
      clear hK K
      simp only [List.setIfInBounds_toArray, List.set_cons_zero, List.set_cons_succ]
      refine wpAnyH_ready (rs := [3]) (by as_aux_lemma => kernel_rfl) (by simp) ?_
      refine AllReadyH.cons (o := { dst := some 14, op := Op.call { callee := Callee.value (Operand.func 47), args := #[Operand.tmp 13], argTypes := #[24] }, type := 65, pos := "ref.go:56", after := #[{ on := 2, ground := Ground.data }, { on := 1, ground := Ground.chain }], guard := none }) rfl (fun K hK => ?_) (by exact AllReadyH.nil)
      go_simp
      (go_at_call 47; refine (rbytes_any _ _).mono ?_; rintro e wk3 ⟨rfl, hk3⟩)
      refine hK.out _ _ (by (try dsimp only); (first | assumption | exact (Below.refl _ _).drew | exact (balloc (Below.refl _ _) _).drew | exact rstep (by assumption) (by assumption) | exact balloc (by assumption) _ | exact balloc (balloc (by assumption) _) _)) (fun hHeld => ?_)
      clear hK K
      simp only [List.setIfInBounds_toArray, List.set_cons_zero, List.set_cons_succ]
      refine rest _ _ _ ⟨?_, ?_, ?_, ?_, ?_, hHeld⟩
      · (rw [byC_zero]; repeat (first | exact Blk.new _ _ _ | exact Blk.newS _ _ _ _ | with_reducible refine Blk.drewR ?_ | with_reducible refine Blk.alloc ?_ _ | refine Blk.keep ?_ hk3 | refine Blk.keep ?_ hk1))
      · (rw [byC_zero]; repeat (first | exact Blk.new _ _ _ | exact Blk.newS _ _ _ _ | with_reducible refine Blk.drewR ?_ | with_reducible refine Blk.alloc ?_ _ | refine Blk.keep ?_ hk3 | refine Blk.keep ?_ hk1))
      · (have e1 := hk1.size; have e3 := hk3.size; first | (simp only [World.size_drew'] at e1 e3 ⊢; omega) | (simp only [World.size_alloc, World.size_drew'] at e1 e3 ⊢; omega))
      · (have e1 := hk1.size; have e3 := hk3.size; first | (simp only [World.size_drew'] at e1 e3 ⊢; omega) | (simp only [World.size_alloc, World.size_drew'] at e1 e3 ⊢; omega))
      · (have e1 := hk1.size; have e3 := hk3.size; first | (simp only [World.size_drew'] at e1 e3 ⊢; omega) | (simp only [World.size_alloc, World.size_drew'] at e1 e3 ⊢; omega))
    refine AllReadyH.cons (o := { dst := some 5, op := Op.alloc 65, type := 0, pos := "ref.go:56", after := #[], guard := none }) rfl (fun K hK => ?_) ?_
    · go_simp
      refine hK.out _ _ (by (try dsimp only); (first | assumption | exact (Below.refl _ _).drew | exact (balloc (Below.refl _ _) _).drew | exact rstep (by assumption) (by assumption) | exact balloc (by assumption) _ | exact balloc (balloc (by assumption) _) _)) (fun hHeld => ?_)
      clear hK K
      simp only [List.setIfInBounds_toArray, List.set_cons_zero, List.set_cons_succ]
      refine wpAnyH_ready (rs := [1, 5]) (by as_aux_lemma => kernel_rfl) (by simp) ?_
      refine AllReadyH.cons (o := { dst := some 12, op := Op.call { callee := Callee.value (Operand.func 47), args := #[Operand.tmp 11], argTypes := #[24] }, type := 65, pos := "ref.go:56", after := #[{ on := 0, ground := Ground.data }], guard := none }) rfl (fun K hK => ?_) ?_
      · go_simp
        (go_at_call 47; refine (rbytes_any _ _).mono ?_; rintro e wk1 ⟨rfl, hk1⟩)
        refine hK.out _ _ (by (try dsimp only); (first | assumption | exact (Below.refl _ _).drew | exact (balloc (Below.refl _ _) _).drew | exact rstep (by assumption) (by assumption) | exact balloc (by assumption) _ | exact balloc (balloc (by assumption) _) _)) (fun hHeld => ?_)
        clear hK K
        simp only [List.setIfInBounds_toArray, List.set_cons_zero, List.set_cons_succ]
        refine wpAnyH_ready (rs := [3, 5]) (by as_aux_lemma => kernel_rfl) (by simp) ?_
        refine AllReadyH.cons (o := { dst := some 14, op := Op.call { callee := Callee.value (Operand.func 47), args := #[Operand.tmp 13], argTypes := #[24] }, type := 65, pos := "ref.go:56", after := #[{ on := 2, ground := Ground.data }, { on := 1, ground := Ground.chain }], guard := none }) rfl (fun K hK => ?_) ?_
        · go_simp
          (go_at_call 47; refine (rbytes_any _ _).mono ?_; rintro e wk3 ⟨rfl, hk3⟩)
          refine hK.out _ _ (by (try dsimp only); (first | assumption | exact (Below.refl _ _).drew | exact (balloc (Below.refl _ _) _).drew | exact rstep (by assumption) (by assumption) | exact balloc (by assumption) _ | exact balloc (balloc (by assumption) _) _)) (fun hHeld => ?_)
          clear hK K
          simp only [List.setIfInBounds_toArray, List.set_cons_zero, List.set_cons_succ]
          refine wpAnyH_ready (rs := [5]) (by as_aux_lemma => kernel_rfl) (by simp) ?_
          refine AllReadyH.cons (o := { dst := some 6, op := Op.alloc 65, type := 0, pos := "ref.go:56", after := #[], guard := none }) rfl (fun K hK => ?_) (by exact AllReadyH.nil)
          go_simp
          refine hK.out _ _ (by (try dsimp only); (first | assumption | exact (Below.refl _ _).drew | exact (balloc (Below.refl _ _) _).drew | exact rstep (by assumption) (by assumption) | exact balloc (by assumption) _ | exact balloc (balloc (by assumption) _) _)) (fun hHeld => ?_)
          clear hK K
          simp only [List.setIfInBounds_toArray, List.set_cons_zero, List.set_cons_succ]
          refine rest _ _ _ ⟨?_, ?_, ?_, ?_, ?_, hHeld⟩
          · (rw [byC_zero]; repeat (first | exact Blk.new _ _ _ | exact Blk.newS _ _ _ _ | with_reducible refine Blk.drewR ?_ | with_reducible refine Blk.alloc ?_ _ | refine Blk.keep ?_ hk3 | refine Blk.keep ?_ hk1))
          · (rw [byC_zero]; repeat (first | exact Blk.new _ _ _ | exact Blk.newS _ _ _ _ | with_reducible refine Blk.drewR ?_ | with_reducible refine Blk.alloc ?_ _ | refine Blk.keep ?_ hk3 | refine Blk.keep ?_ hk1))
          · (have e1 := hk1.size; have e3 := hk3.size; first | (simp only [World.size_drew'] at e1 e3 ⊢; omega) | (simp only [World.size_alloc, World.size_drew'] at e1 e3 ⊢; omega))
          · (have e1 := hk1.size; have e3 := hk3.size; first | (simp only [World.size_drew'] at e1 e3 ⊢; omega) | (simp only [World.size_alloc, World.size_drew'] at e1 e3 ⊢; omega))
          · (have e1 := hk1.size; have e3 := hk3.size; first | (simp only [World.size_drew'] at e1 e3 ⊢; omega) | (simp only [World.size_alloc, World.size_drew'] at e1 e3 ⊢; omega))
        refine AllReadyH.cons (o := { dst := some 6, op := Op.alloc 65, type := 0, pos := "ref.go:56", after := #[], guard := none }) rfl (fun K hK => ?_) (by exact AllReadyH.nil)
        go_simp
        refine hK.out _ _ (by (try dsimp only); (first | assumption | exact (Below.refl _ _).drew | exact (balloc (Below.refl _ _) _).drew | exact rstep (by assumption) (by assumption) | exact balloc (by assumption) _ | exact balloc (balloc (by assumption) _) _)) (fun hHeld => ?_)
        clear hK K
        simp only [List.setIfInBounds_toArray, List.set_cons_zero, List.set_cons_succ]
        refine wpAnyH_ready (rs := [3]) (by as_aux_lemma => kernel_rfl) (by simp) ?_
        refine AllReadyH.cons (o := { dst := some 14, op := Op.call { callee := Callee.value (Operand.func 47), args := #[Operand.tmp 13], argTypes := #[24] }, type := 65, pos := "ref.go:56", after := #[{ on := 2, ground := Ground.data }, { on := 1, ground := Ground.chain }], guard := none }) rfl (fun K hK => ?_) (by exact AllReadyH.nil)
        go_simp
        (go_at_call 47; refine (rbytes_any _ _).mono ?_; rintro e wk3 ⟨rfl, hk3⟩)
        refine hK.out _ _ (by (try dsimp only); (first | assumption | exact (Below.refl _ _).drew | exact (balloc (Below.refl _ _) _).drew | exact rstep (by assumption) (by assumption) | exact balloc (by assumption) _ | exact balloc (balloc (by assumption) _) _)) (fun hHeld => ?_)
        clear hK K
        simp only [List.setIfInBounds_toArray, List.set_cons_zero, List.set_cons_succ]
        refine rest _ _ _ ⟨?_, ?_, ?_, ?_, ?_, hHeld⟩
        · (rw [byC_zero]; repeat (first | exact Blk.new _ _ _ | exact Blk.newS _ _ _ _ | with_reducible refine Blk.drewR ?_ | with_reducible refine Blk.alloc ?_ _ | refine Blk.keep ?_ hk3 | refine Blk.keep ?_ hk1))
        · (rw [byC_zero]; repeat (first | exact Blk.new _ _ _ | exact Blk.newS _ _ _ _ | with_reducible refine Blk.drewR ?_ | with_reducible refine Blk.alloc ?_ _ | refine Blk.keep ?_ hk3 | refine Blk.keep ?_ hk1))
        · (have e1 := hk1.size; have e3 := hk3.size; first | (simp only [World.size_drew'] at e1 e3 ⊢; omega) | (simp only [World.size_alloc, World.size_drew'] at e1 e3 ⊢; omega))
        · (have e1 := hk1.size; have e3 := hk3.size; first | (simp only [World.size_drew'] at e1 e3 ⊢; omega) | (simp only [World.size_alloc, World.size_drew'] at e1 e3 ⊢; omega))
        · (have e1 := hk1.size; have e3 := hk3.size; first | (simp only [World.size_drew'] at e1 e3 ⊢; omega) | (simp only [World.size_alloc, World.size_drew'] at e1 e3 ⊢; omega))
      refine AllReadyH.cons (o := { dst := some 6, op := Op.alloc 65, type := 0, pos := "ref.go:56", after := #[], guard := none }) rfl (fun K hK => ?_) (by exact AllReadyH.nil)
      go_simp
      refine hK.out _ _ (by (try dsimp only); (first | assumption | exact (Below.refl _ _).drew | exact (balloc (Below.refl _ _) _).drew | exact rstep (by assumption) (by assumption) | exact balloc (by assumption) _ | exact balloc (balloc (by assumption) _) _)) (fun hHeld => ?_)
      clear hK K
      simp only [List.setIfInBounds_toArray, List.set_cons_zero, List.set_cons_succ]
      refine wpAnyH_ready (rs := [1]) (by as_aux_lemma => kernel_rfl) (by simp) ?_
      refine AllReadyH.cons (o := { dst := some 12, op := Op.call { callee := Callee.value (Operand.func 47), args := #[Operand.tmp 11], argTypes := #[24] }, type := 65, pos := "ref.go:56", after := #[{ on := 0, ground := Ground.data }], guard := none }) rfl (fun K hK => ?_) (by exact AllReadyH.nil)
      go_simp
      (go_at_call 47; refine (rbytes_any _ _).mono ?_; rintro e wk1 ⟨rfl, hk1⟩)
      refine hK.out _ _ (by (try dsimp only); (first | assumption | exact (Below.refl _ _).drew | exact (balloc (Below.refl _ _) _).drew | exact rstep (by assumption) (by assumption) | exact balloc (by assumption) _ | exact balloc (balloc (by assumption) _) _)) (fun hHeld => ?_)
      clear hK K
      simp only [List.setIfInBounds_toArray, List.set_cons_zero, List.set_cons_succ]
      refine wpAnyH_ready (rs := [3]) (by as_aux_lemma => kernel_rfl) (by simp) ?_
      refine AllReadyH.cons (o := { dst := some 14, op := Op.call { callee := Callee.value (Operand.func 47), args := #[Operand.tmp 13], argTypes := #[24] }, type := 65, pos := "ref.go:56", after := #[{ on := 2, ground := Ground.data }, { on := 1, ground := Ground.chain }], guard := none }) rfl (fun K hK => ?_) (by exact AllReadyH.nil)
      go_simp
      (go_at_call 47; refine (rbytes_any _ _).mono ?_; rintro e wk3 ⟨rfl, hk3⟩)
      refine hK.out _ _ (by (try dsimp only); (first | assumption | exact (Below.refl _ _).drew | exact (balloc (Below.refl _ _) _).drew | exact rstep (by assumption) (by assumption) | exact balloc (by assumption) _ | exact balloc (balloc (by assumption) _) _)) (fun hHeld => ?_)
      clear hK K
      simp only [List.setIfInBounds_toArray, List.set_cons_zero, List.set_cons_succ]
      refine rest _ _ _ ⟨?_, ?_, ?_, ?_, ?_, hHeld⟩
      · (rw [byC_zero]; repeat (first | exact Blk.new _ _ _ | exact Blk.newS _ _ _ _ | with_reducible refine Blk.drewR ?_ | with_reducible refine Blk.alloc ?_ _ | refine Blk.keep ?_ hk3 | refine Blk.keep ?_ hk1))
      · (rw [byC_zero]; repeat (first | exact Blk.new _ _ _ | exact Blk.newS _ _ _ _ | with_reducible refine Blk.drewR ?_ | with_reducible refine Blk.alloc ?_ _ | refine Blk.keep ?_ hk3 | refine Blk.keep ?_ hk1))
      · (have e1 := hk1.size; have e3 := hk3.size; first | (simp only [World.size_drew'] at e1 e3 ⊢; omega) | (simp only [World.size_alloc, World.size_drew'] at e1 e3 ⊢; omega))
      · (have e1 := hk1.size; have e3 := hk3.size; first | (simp only [World.size_drew'] at e1 e3 ⊢; omega) | (simp only [World.size_alloc, World.size_drew'] at e1 e3 ⊢; omega))
      · (have e1 := hk1.size; have e3 := hk3.size; first | (simp only [World.size_drew'] at e1 e3 ⊢; omega) | (simp only [World.size_alloc, World.size_drew'] at e1 e3 ⊢; omega))
    refine AllReadyH.cons (o := { dst := some 6, op := Op.alloc 65, type := 0, pos := "ref.go:56", after := #[], guard := none }) rfl (fun K hK => ?_) (by exact AllReadyH.nil)
    go_simp
    refine hK.out _ _ (by (try dsimp only); (first | assumption | exact (Below.refl _ _).drew | exact (balloc (Below.refl _ _) _).drew | exact rstep (by assumption) (by assumption) | exact balloc (by assumption) _ | exact balloc (balloc (by assumption) _) _)) (fun hHeld => ?_)
    clear hK K
    simp only [List.setIfInBounds_toArray, List.set_cons_zero, List.set_cons_succ]
    refine wpAnyH_ready (rs := [1, 4]) (by as_aux_lemma => kernel_rfl) (by simp) ?_
    refine AllReadyH.cons (o := { dst := some 12, op := Op.call { callee := Callee.value (Operand.func 47), args := #[Operand.tmp 11], argTypes := #[24] }, type := 65, pos := "ref.go:56", after := #[{ on := 0, ground := Ground.data }], guard := none }) rfl (fun K hK => ?_) ?_
    · go_simp
      (go_at_call 47; refine (rbytes_any _ _).mono ?_; rintro e wk1 ⟨rfl, hk1⟩)
      refine hK.out _ _ (by (try dsimp only); (first | assumption | exact (Below.refl _ _).drew | exact (balloc (Below.refl _ _) _).drew | exact rstep (by assumption) (by assumption) | exact balloc (by assumption) _ | exact balloc (balloc (by assumption) _) _)) (fun hHeld => ?_)
      clear hK K
      simp only [List.setIfInBounds_toArray, List.set_cons_zero, List.set_cons_succ]
      refine wpAnyH_ready (rs := [3, 4]) (by as_aux_lemma => kernel_rfl) (by simp) ?_
      refine AllReadyH.cons (o := { dst := some 14, op := Op.call { callee := Callee.value (Operand.func 47), args := #[Operand.tmp 13], argTypes := #[24] }, type := 65, pos := "ref.go:56", after := #[{ on := 2, ground := Ground.data }, { on := 1, ground := Ground.chain }], guard := none }) rfl (fun K hK => ?_) ?_
      · go_simp
        (go_at_call 47; refine (rbytes_any _ _).mono ?_; rintro e wk3 ⟨rfl, hk3⟩)
        refine hK.out _ _ (by (try dsimp only); (first | assumption | exact (Below.refl _ _).drew | exact (balloc (Below.refl _ _) _).drew | exact rstep (by assumption) (by assumption) | exact balloc (by assumption) _ | exact balloc (balloc (by assumption) _) _)) (fun hHeld => ?_)
        clear hK K
        simp only [List.setIfInBounds_toArray, List.set_cons_zero, List.set_cons_succ]
        refine wpAnyH_ready (rs := [4]) (by as_aux_lemma => kernel_rfl) (by simp) ?_
        refine AllReadyH.cons (o := { dst := some 5, op := Op.alloc 65, type := 0, pos := "ref.go:56", after := #[], guard := none }) rfl (fun K hK => ?_) (by exact AllReadyH.nil)
        go_simp
        refine hK.out _ _ (by (try dsimp only); (first | assumption | exact (Below.refl _ _).drew | exact (balloc (Below.refl _ _) _).drew | exact rstep (by assumption) (by assumption) | exact balloc (by assumption) _ | exact balloc (balloc (by assumption) _) _)) (fun hHeld => ?_)
        clear hK K
        simp only [List.setIfInBounds_toArray, List.set_cons_zero, List.set_cons_succ]
        refine rest _ _ _ ⟨?_, ?_, ?_, ?_, ?_, hHeld⟩
        · (rw [byC_zero]; repeat (first | exact Blk.new _ _ _ | exact Blk.newS _ _ _ _ | with_reducible refine Blk.drewR ?_ | with_reducible refine Blk.alloc ?_ _ | refine Blk.keep ?_ hk3 | refine Blk.keep ?_ hk1))
        · (rw [byC_zero]; repeat (first | exact Blk.new _ _ _ | exact Blk.newS _ _ _ _ | with_reducible refine Blk.drewR ?_ | with_reducible refine Blk.alloc ?_ _ | refine Blk.keep ?_ hk3 | refine Blk.keep ?_ hk1))
        · (have e1 := hk1.size; have e3 := hk3.size; first | (simp only [World.size_drew'] at e1 e3 ⊢; omega) | (simp only [World.size_alloc, World.size_drew'] at e1 e3 ⊢; omega))
        · (have e1 := hk1.size; have e3 := hk3.size; first | (simp only [World.size_drew'] at e1 e3 ⊢; omega) | (simp only [World.size_alloc, World.size_drew'] at e1 e3 ⊢; omega))
        · (have e1 := hk1.size; have e3 := hk3.size; first | (simp only [World.size_drew'] at e1 e3 ⊢; omega) | (simp only [World.size_alloc, World.size_drew'] at e1 e3 ⊢; omega))
      refine AllReadyH.cons (o := { dst := some 5, op := Op.alloc 65, type := 0, pos := "ref.go:56", after := #[], guard := none }) rfl (fun K hK => ?_) (by exact AllReadyH.nil)
      go_simp
      refine hK.out _ _ (by (try dsimp only); (first | assumption | exact (Below.refl _ _).drew | exact (balloc (Below.refl _ _) _).drew | exact rstep (by assumption) (by assumption) | exact balloc (by assumption) _ | exact balloc (balloc (by assumption) _) _)) (fun hHeld => ?_)
      clear hK K
      simp only [List.setIfInBounds_toArray, List.set_cons_zero, List.set_cons_succ]
      refine wpAnyH_ready (rs := [3]) (by as_aux_lemma => kernel_rfl) (by simp) ?_
      refine AllReadyH.cons (o := { dst := some 14, op := Op.call { callee := Callee.value (Operand.func 47), args := #[Operand.tmp 13], argTypes := #[24] }, type := 65, pos := "ref.go:56", after := #[{ on := 2, ground := Ground.data }, { on := 1, ground := Ground.chain }], guard := none }) rfl (fun K hK => ?_) (by exact AllReadyH.nil)
      go_simp
      (go_at_call 47; refine (rbytes_any _ _).mono ?_; rintro e wk3 ⟨rfl, hk3⟩)
      refine hK.out _ _ (by (try dsimp only); (first | assumption | exact (Below.refl _ _).drew | exact (balloc (Below.refl _ _) _).drew | exact rstep (by assumption) (by assumption) | exact balloc (by assumption) _ | exact balloc (balloc (by assumption) _) _)) (fun hHeld => ?_)
      clear hK K
      simp only [List.setIfInBounds_toArray, List.set_cons_zero, List.set_cons_succ]
      refine rest _ _ _ ⟨?_, ?_, ?_, ?_, ?_, hHeld⟩
      · (rw [byC_zero]; repeat (first | exact Blk.new _ _ _ | exact Blk.newS _ _ _ _ | with_reducible refine Blk.drewR ?_ | with_reducible refine Blk.alloc ?_ _ | refine Blk.keep ?_ hk3 | refine Blk.keep ?_ hk1))
      · (rw [byC_zero]; repeat (first | exact Blk.new _ _ _ | exact Blk.newS _ _ _ _ | with_reducible refine Blk.drewR ?_ | with_reducible refine Blk.alloc ?_ _ | refine Blk.keep ?_ hk3 | refine Blk.keep ?_ hk1))
      · (have e1 := hk1.size; have e3 := hk3.size; first | (simp only [World.size_drew'] at e1 e3 ⊢; omega) | (simp only [World.size_alloc, World.size_drew'] at e1 e3 ⊢; omega))
      · (have e1 := hk1.size; have e3 := hk3.size; first | (simp only [World.size_drew'] at e1 e3 ⊢; omega) | (simp only [World.size_alloc, World.size_drew'] at e1 e3 ⊢; omega))
      · (have e1 := hk1.size; have e3 := hk3.size; first | (simp only [World.size_drew'] at e1 e3 ⊢; omega) | (simp only [World.size_alloc, World.size_drew'] at e1 e3 ⊢; omega))
    refine AllReadyH.cons (o := { dst := some 5, op := Op.alloc 65, type := 0, pos := "ref.go:56", after := #[], guard := none }) rfl (fun K hK => ?_) (by exact AllReadyH.nil)
    go_simp
    refine hK.out _ _ (by (try dsimp only); (first | assumption | exact (Below.refl _ _).drew | exact (balloc (Below.refl _ _) _).drew | exact rstep (by assumption) (by assumption) | exact balloc (by assumption) _ | exact balloc (balloc (by assumption) _) _)) (fun hHeld => ?_)
    clear hK K
    simp only [List.setIfInBounds_toArray, List.set_cons_zero, List.set_cons_succ]
    refine wpAnyH_ready (rs := [1]) (by as_aux_lemma => kernel_rfl) (by simp) ?_
    refine AllReadyH.cons (o := { dst := some 12, op := Op.call { callee := Callee.value (Operand.func 47), args := #[Operand.tmp 11], argTypes := #[24] }, type := 65, pos := "ref.go:56", after := #[{ on := 0, ground := Ground.data }], guard := none }) rfl (fun K hK => ?_) (by exact AllReadyH.nil)
    go_simp
    (go_at_call 47; refine (rbytes_any _ _).mono ?_; rintro e wk1 ⟨rfl, hk1⟩)
    refine hK.out _ _ (by (try dsimp only); (first | assumption | exact (Below.refl _ _).drew | exact (balloc (Below.refl _ _) _).drew | exact rstep (by assumption) (by assumption) | exact balloc (by assumption) _ | exact balloc (balloc (by assumption) _) _)) (fun hHeld => ?_)
    clear hK K
    simp only [List.setIfInBounds_toArray, List.set_cons_zero, List.set_cons_succ]
    refine wpAnyH_ready (rs := [3]) (by as_aux_lemma => kernel_rfl) (by simp) ?_
    refine AllReadyH.cons (o := { dst := some 14, op := Op.call { callee := Callee.value (Operand.func 47), args := #[Operand.tmp 13], argTypes := #[24] }, type := 65, pos := "ref.go:56", after := #[{ on := 2, ground := Ground.data }, { on := 1, ground := Ground.chain }], guard := none }) rfl (fun K hK => ?_) (by exact AllReadyH.nil)
    go_simp
    (go_at_call 47; refine (rbytes_any _ _).mono ?_; rintro e wk3 ⟨rfl, hk3⟩)
    refine hK.out _ _ (by (try dsimp only); (first | assumption | exact (Below.refl _ _).drew | exact (balloc (Below.refl _ _) _).drew | exact rstep (by assumption) (by assumption) | exact balloc (by assumption) _ | exact balloc (balloc (by assumption) _) _)) (fun hHeld => ?_)
    clear hK K
    simp only [List.setIfInBounds_toArray, List.set_cons_zero, List.set_cons_succ]
    refine rest _ _ _ ⟨?_, ?_, ?_, ?_, ?_, hHeld⟩
    · (rw [byC_zero]; repeat (first | exact Blk.new _ _ _ | exact Blk.newS _ _ _ _ | with_reducible refine Blk.drewR ?_ | with_reducible refine Blk.alloc ?_ _ | refine Blk.keep ?_ hk3 | refine Blk.keep ?_ hk1))
    · (rw [byC_zero]; repeat (first | exact Blk.new _ _ _ | exact Blk.newS _ _ _ _ | with_reducible refine Blk.drewR ?_ | with_reducible refine Blk.alloc ?_ _ | refine Blk.keep ?_ hk3 | refine Blk.keep ?_ hk1))
    · (have e1 := hk1.size; have e3 := hk3.size; first | (simp only [World.size_drew'] at e1 e3 ⊢; omega) | (simp only [World.size_alloc, World.size_drew'] at e1 e3 ⊢; omega))
    · (have e1 := hk1.size; have e3 := hk3.size; first | (simp only [World.size_drew'] at e1 e3 ⊢; omega) | (simp only [World.size_alloc, World.size_drew'] at e1 e3 ⊢; omega))
    · (have e1 := hk1.size; have e3 := hk3.size; first | (simp only [World.size_drew'] at e1 e3 ⊢; omega) | (simp only [World.size_alloc, World.size_drew'] at e1 e3 ⊢; omega))
  case hrest =>
    intro X Y wz ⟨z1, z2, z3, z4, z5, z6⟩
    refine wpAnyH_ready (rs := [6]) (by as_aux_lemma => kernel_rfl) (by simp) ?_
    refine AllReadyH.cons (o := { dst := none, op := Op.store 65 (Operand.tmp 5) (Operand.tmp 12), type := 0, pos := "ref.go:56", after := #[{ on := 4, ground := Ground.data }, { on := 1, ground := Ground.data }, { on := 3, ground := Ground.chain }, { on := 0, ground := Ground.phase }, { on := 1, ground := Ground.phase }, { on := 2, ground := Ground.textOnly Departure.lateStores }, { on := 3, ground := Ground.textOnly Departure.lateStoresUnsure }, { on := 4, ground := Ground.phase }, { on := 5, ground := Ground.phase }], guard := none }) rfl (fun K hK => ?_) (by exact AllReadyH.nil)
    rw [if_pos (by rfl)]
    refine wp_store_mid 65 (.tmp 5) (.tmp 12) rfl X 0 (byC a 32) rfl rfl (z1.there _ (by rw [byC_size, byC_size]; exact Nat.le_refl _)) (HI _).out (byC_one a 32) (hK.out _ _ (below_setCells' z4 _ 0 wz z6) (fun hHeld => ?_))
    have z7 := blk_setCells z1 (byC a 32) (by rw [byC_size, byC_size]) (byC_one a 32)
    have z8 := blk_setCells_far z2 X 0 (byC a 32).toList z3.symm
    clear z1 z2 z6
    generalize wz.setCells X 0 (byC a 32).toList = wy at z7 z8 hHeld ⊢
    clear hK K
    simp only [Act.put, List.setIfInBounds_toArray, List.set_cons_zero, List.set_cons_succ]
    refine wpAnyH_ready (rs := [7]) (by as_aux_lemma => kernel_rfl) (by simp) ?_
    refine AllReadyH.cons (o := { dst := none, op := Op.store 65 (Operand.tmp 6) (Operand.tmp 14), type := 0, pos := "ref.go:56", after := #[{ on := 5, ground := Ground.data }, { on := 3, ground := Ground.data }, { on := 6, ground := Ground.chain }, { on := 0, ground := Ground.phase }, { on := 1, ground := Ground.phase }, { on := 2, ground := Ground.phase }, { on := 3, ground := Ground.phase }, { on := 4, ground := Ground.phase }, { on := 5, ground := Ground.phase }, { on := 6, ground := Ground.phase }], guard := none }) rfl (fun K hK => ?_) (by exact AllReadyH.nil)
    rw [if_pos (by rfl)]
    refine wp_store_mid 65 (.tmp 6) (.tmp 14) rfl Y 0 (byC b 32) rfl rfl (z8.there _ (by rw [byC_size, byC_size]; exact Nat.le_refl _)) (HI _).out (byC_one b 32) (hK.out _ _ (below_setCells' z5 _ 0 wy hHeld) (fun hHeld => ?_))
    have z9 := blk_setCells z8 (byC b 32) (by rw [byC_size, byC_size]) (byC_one b 32)
    have z10 := blk_setCells_far z7 Y 0 (byC b 32).toList z3
    clear z7 z8
    generalize wy.setCells Y 0 (byC b 32).toList = wx at z9 z10 hHeld ⊢
    clear hK K
    simp only [Act.put, List.setIfInBounds_toArray, List.set_cons_zero, List.set_cons_succ]
    refine wpAnyH_done (by as_aux_lemma => kernel_rfl) ?_ _
    have hR := HR.out.keep hHeld
    have hB := bstep HW.out hHeld
    have X1 : w.heap.size + 1 + 1 ≠ X := by omega
    have Y1 : w.heap.size + 1 + 1 ≠ Y := by omega
    have hZX := z10.lt
    have hZY := z9.lt
    have hZR := hR.lt
    have hZs := hB.size
    have hZ := Blk.new wx 65 (byC 0 0)
    have z9' := z9.alloc (.cells (byC 0 0) 65)
    have z10' := z10.alloc (.cells (byC 0 0) 65)
    have hR' := hR.alloc (.cells (byC 0 0) 65)
    have hB' := balloc hB (.cells (byC 0 0) 65)
    rw [byC_zero 0] at hZ z9' z10' hR' hB'
    rw [← byC_zero 0] at hZ
    have HZ := Lib.hid hZ
    have H9 := Lib.hid z9'
    have H10 := Lib.hid z10'
    have HR' := Lib.hid hR'
    clear hHeld cA0 cA1 cA2 cA3 cB0 cB1 cB2 cB3 z4 z5 hRl HR HW hZ z9 z10 z9' z10' hR hR' hB
    obtain ⟨Z, hZe⟩ : ∃ Z, wx.heap.size = Z := ⟨_, rfl⟩
    rw [hZe] at HZ hZX hZY hZR hZs
    go_wp2_with fail
    go_loopw [8] (fun i wr => ∃ n : Nat, n ≤ 32 ∧ i = .int .i64 n ∧ Blk wr X 65 (byC a 32) ∧ Blk wr Y 65 (byC b 32) ∧ Blk wr Z 65 (byC (a % 256 ^ n * b) 32) ∧ Blk wr (w.heap.size + 1 + 1) 24 (Wc 0) ∧ Below w.heap.size w wr) (fun i _ => 32 - (intOf i).toNat)
    case atStart => exact ⟨0, by omega, rfl, H10.out, H9.out, by rw [Nat.pow_zero, Nat.mod_one, Nat.zero_mul]; rw [byC_nought]; exact HZ.out, HR'.out, hB'⟩
    case round =>
      obtain ⟨n, hn, rfl, hx, hy, hz, hr, hB⟩ := hrel
      clear HZ H9 H10 HR' hB'
      by_cases hlt : n < 32
      · have hd := byA_lt a n
        obtain ⟨S, hS⟩ : ∃ S, a % 256 ^ n * b = S := ⟨_, rfl⟩
        obtain ⟨d, hdd⟩ : ∃ d, byA a n = d := ⟨_, rfl⟩
        have hx0 : ∀ wi, Blk wi X 65 (byC a 32) → wi.cell? ⟨X, 31 - n, none⟩ = some (.int .u8 ((d : Nat) : Int)) := fun wi h => (cell_of_row wi _ _ _ _ _ h).trans (by rw [byC_get _ _ _ (by omega), if_pos (by omega), show 31 - (31 - n) = n by omega, hdd])
        rw [hS] at hz
        rw [hdd] at hd
        have hnext : S + 256 ^ n * (d * b) = a % 256 ^ (n + 1) * b := by rw [← hS, ← hdd, rows_next]
        have HX0 := Lib.hid hx
        have HY0 := Lib.hid hy
        have HZ0 := Lib.hid hz
        have HR0 := Lib.hid hr
        have HN := Lib.hid hnext
        clear hx hy hz hr hnext hS hdd
        go_wp2_with fail
        go_loopw [9, 10] (fun c k wi => ∃ m : Nat, m ≤ 32 - n ∧ c = .int .i64 (cyM S d b n m) ∧ k = .int .i64 m ∧ Blk wi X 65 (byC a 32) ∧ Blk wi Y 65 (byC b 32) ∧ Blk wi Z 65 (adC S (256 ^ n * (d * b)) (n + m)) ∧ Blk wi (w.heap.size + 1 + 1) 24 (Wc 0) ∧ Below w.heap.size w wi) (fun _ k _ => 32 - (intOf k).toNat)
        case atStart => exact ⟨0, by omega, by rw [cyM_zero]; rfl, rfl, HX0.out, HY0.out, by rw [Nat.add_zero, adC_low]; exact HZ0.out, HR0.out, hB⟩
        case round =>
          obtain ⟨m, hm, rfl, rfl, hx, hy, hz, hr, hB⟩ := hrel
          clear HX0 HY0 HZ0 HR0
          by_cases hlm : m < 32 - n
          · have cx := hx0 wr hx
            have cy : wr.cell? ⟨Y, 31 - m, none⟩ = some (.int .u8 ((byA b m : Nat) : Int)) := (cell_of_row wr _ _ _ _ _ hy).trans (by rw [byC_get _ _ _ (by omega), if_pos (by omega), show 31 - (31 - m) = m by omega])
            have cz : wr.cell? ⟨Z, 31 - n - m, none⟩ = some (.int .u8 ((byA S (n + m) : Nat) : Int)) := (cell_of_row wr _ _ _ _ _ hz).trans (by rw [adC_get _ _ _ _ (by omega), if_neg (by omega), show 31 - (31 - n - m) = n + m by omega])
            have hf := frozen_of_row wr _ (31 - n - m) _ _ hz
            have HX1 := Lib.hid hx
            have HY1 := Lib.hid hy
            have HZ1 := Lib.hid hz
            have HR1 := Lib.hid hr
            clear hx hy hz hr hx0
            have b1 := byA_lt S (n + m)
            have b2 := byA_lt b m
            have b3 := cyM_lt S d b n m hd
            have b4 : d * byA b m ≤ 255 * 255 := Nat.mul_le_mul (by omega) (by omega)
            have HPD := Lib.hid (show ((d : Nat) : Int) * ((byA b m : Nat) : Int) = ((d * byA b m : Nat) : Int) by simp)
            have g0 : IntKind.i64.wrap ((n : Int) + (m : Int)) = (n : Int) + (m : Int) := IntWalk.i64_in _ (by omega)
            have g1 : (n : Int) + (m : Int) < 32 := by omega
            have g2 : IntKind.i64.wrap (31 - (n : Int)) = 31 - (n : Int) := IntWalk.i64_in _ (by omega)
            have g3 : IntKind.i64.wrap (31 - (n : Int) - (m : Int)) = 31 - (n : Int) - (m : Int) := IntWalk.i64_in _ (by omega)
            have g4 : (0 : Int) ≤ 31 - (n : Int) - (m : Int) := by omega
            have g5 : 31 - (n : Int) - (m : Int) < 32 := by omega
            have g6 : (31 - (n : Int) - (m : Int)).toNat = 31 - n - m := by omega
            have g7 : (0 : Int) ≤ 31 - (n : Int) := by omega
            have g8 : 31 - (n : Int) < 32 := by omega
            have g9 : (31 - (n : Int)).toNat = 31 - n := by omega
            have g10 : IntKind.i64.wrap (31 - (m : Int)) = 31 - (m : Int) := IntWalk.i64_in _ (by omega)
            have g11 : (0 : Int) ≤ 31 - (m : Int) := by omega
            have g12 : 31 - (m : Int) < 32 := by omega
            have g13 : (31 - (m : Int)).toNat = 31 - m := by omega
            have g14 : IntKind.i64.wrap ((byA S (n + m) : Nat) : Int) = ((byA S (n + m) : Nat) : Int) := IntWalk.i64_in _ (by omega)
            have g15 : IntKind.i64.wrap ((byA b m : Nat) : Int) = ((byA b m : Nat) : Int) := IntWalk.i64_in _ (by omega)
            have g16 : IntKind.i64.wrap ((d : Nat) : Int) = ((d : Nat) : Int) := IntWalk.i64_in _ (by omega)
            have g17 : IntKind.i64.wrap (((d : Nat) : Int) * ((byA b m : Nat) : Int)) = ((d : Nat) : Int) * ((byA b m : Nat) : Int) := by rw [HPD.out]; exact IntWalk.i64_in _ (by omega)
            have g18 : IntKind.i64.wrap (((cyM S d b n m : Nat) : Int) + ((byA S (n + m) : Nat) : Int)) = ((cyM S d b n m : Nat) : Int) + ((byA S (n + m) : Nat) : Int) := IntWalk.i64_in _ (by omega)
            have g19 : IntKind.i64.wrap (((cyM S d b n m : Nat) : Int) + ((byA S (n + m) : Nat) : Int) + ((d : Nat) : Int) * ((byA b m : Nat) : Int)) = ((cyM S d b n m : Nat) : Int) + ((byA S (n + m) : Nat) : Int) + ((d : Nat) : Int) * ((byA b m : Nat) : Int) := by rw [HPD.out]; exact IntWalk.i64_in _ (by omega)
            have g20 : (m : Int) ≤ 31 - (n : Int) := by omega
            have g21 : (n : Int) ≤ 31 := by omega
            have g22 : (m : Int) ≤ 31 := by omega
            go_wp2_with fail
            go_quiet (fail)
            all_goals go_wp2
            have hv : ((cyM S d b n m : Nat) : Int) + ((byA S (n + m) : Nat) : Int) + ((d : Nat) : Int) * ((byA b m : Nat) : Int) = ((cyM S d b n m + byA S (n + m) + d * byA b m : Nat) : Int) := by rw [HPD.out]; simp
            have hv1 : ((cyM S d b n m + byA S (n + m) + d * byA b m : Nat) : Int) % 256 = ((byA (S + 256 ^ n * (d * b)) (n + m) : Nat) : Int) := by rw [← byA_row]; exact (Int.natCast_emod _ _).symm
            have hv2 : ((cyM S d b n m + byA S (n + m) + d * byA b m : Nat) : Int) / 256 = ((cyM S d b n (m + 1) : Nat) : Int) := by rw [← cyM_succ]; exact (Int.natCast_ediv _ _).symm
            rw [hv, hv1, hv2]
            have G := grown_set' (grown_refl (wr.drewN nq) Z) (31 - n - m) (.int .u8 ((byA (S + 256 ^ n * (d * b)) (n + m) : Nat) : Int))
            have h := heap_setCell_same (wr.drewN nq) Z (31 - n - m) _ _ (.int .u8 ((byA (S + 256 ^ n * (d * b)) (n + m) : Nat) : Int)) HZ1.out
            rw [show 31 - n - m = 31 - (n + m) by omega, adC_set S _ (n + m) (by omega)] at h
            rw [show 31 - n - m = 31 - (n + m) by omega] at G ⊢
            have hX2 := Blk.kept (X := wr.drewN nq) HX1.out G (by simp; omega)
            have hY2 := Blk.kept (X := wr.drewN nq) HY1.out G (by simp; omega)
            have hR2 := Blk.kept (X := wr.drewN nq) HR1.out G (by simp; omega)
            exact ⟨⟨m + 1, by omega, rfl, rfl, hX2, hY2, h, hR2, (below_drewN hB nq).setCell (p := ⟨Z, 31 - (n + m), none⟩) (by simp; omega) _⟩, by simp [intOf]; omega⟩
          · obtain rfl : m = 32 - n := by omega
            rw [show n + (32 - n) = 32 by omega, adC_all, HN.out] at hz
            have HX1 := Lib.hid hx
            have HY1 := Lib.hid hy
            have HZ1 := Lib.hid hz
            have HR1 := Lib.hid hr
            clear hx hy hz hr hx0
            have g0 : IntKind.i64.wrap ((n : Int) + ((32 - n : Nat) : Int)) = 32 := by rw [show (n : Int) + ((32 - n : Nat) : Int) = 32 by omega]; decide
            go_wp2
            exact ⟨⟨n + 1, by omega, rfl, HX1.out, HY1.out, HZ1.out, HR1.out, hB⟩, by simp [intOf]; omega⟩
      · obtain rfl : n = 32 := by omega
        have hz' : byC (a % 256 ^ 32 * b) 32 = byC (a * b) 32 := byC_congr (rows_all a b)
        rw [hz'] at hz
        have HZ1 := Lib.hid hz
        have HR := Lib.hid hr
        clear hx hy hz hr hz'
        have hu : Try.prog.underlying 65 = some (.array 32 5) := by kernel_rfl
        have HU := Lib.hid hu
        clear hu
        go_upto_region 13 with (fail)
        refine wp_region_lit (wpList_load_mid rfl 65 (.tmp 7) rfl Z 0 rfl (byC (a * b) 32).toList _ HZ1.out.rangeAt HU.out rfl (HI _).out ?_)
        go_wp2_with (go_at_call 48; refine (rfrom_any (a * b) _).mono ?_; rintro e wk ⟨rfl, hk⟩; have hr2 := HR.out.keep hk; have hB2 := bstep hB hk; have r0 := (cell_of_row wk _ 0 _ _ _ hr2).trans (wc_get 0 0 (by omega)); have r1 := (cell_of_row wk _ 1 _ _ _ hr2).trans (wc_get 0 1 (by omega)); have r2 := (cell_of_row wk _ 2 _ _ _ hr2).trans (wc_get 0 2 (by omega)); have r3 := (cell_of_row wk _ 3 _ _ _ hr2).trans (wc_get 0 3 (by omega)); have f0 := frozen_of_row wk _ 0 _ _ hr2; have f1 := frozen_of_row wk _ 1 _ _ hr2; have f2 := frozen_of_row wk _ 2 _ _ hr2; have f3 := frozen_of_row wk _ 3 _ _ hr2; clear hr2)
        exact bodyPost_ret (v := W (a * b)) (by simp [results, Try.results29, go_sem, r0, r1, r2, r3]) rfl ⟨rfl, (((hB2.setCell (p := ⟨w.heap.size + 1 + 1, 0, none⟩) (by simp; omega) _).setCell (p := ⟨w.heap.size + 1 + 1, 1, none⟩) (by simp; omega) _).setCell (p := ⟨w.heap.size + 1 + 1, 2, none⟩) (by simp; omega) _).setCell (p := ⟨w.heap.size + 1 + 1, 3, none⟩) (by simp; omega) _⟩

end Go.Proofs.Ytopnkkdbimmlhaa
