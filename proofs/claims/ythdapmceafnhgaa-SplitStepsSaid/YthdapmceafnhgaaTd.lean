/- split: AddMod. -/
import Derived.Test.YthdapmceafnhgaaTc
namespace Go.Proofs.Ythdapmceafnhgaa
open Go.RowKit
attribute [local go_sem] ix0 ix1 ix2 ix3
/-- divide, of any word. -/
theorem divide_all (N b nb no n cap : Nat) (hb : b < MM) (hn : n ≤ 16) (hlt : N < B64 ^ n) (w : World) (hnb : nb < w.heap.size)
    (hN : ∀ j, j < n → w.cell? ⟨nb, no + j, none⟩ = some (.int .u64 ((N / B64 ^ j % B64 : Nat) : Int))) :
    Calls Try.prog 24 #[W b, .slice (some ⟨nb, no, none⟩) n cap] w fun e w' => e = .returned (WL (N / b) (mdN N b)) ∧ Below w.heap.size w w' := by
  unfold mdN
  rcases Nat.eq_zero_or_pos b with rfl | h
  · rw [if_pos rfl, Nat.div_zero]
    exact divide_nought _ n cap w
  · rw [if_neg (by omega)]
    exact divide_any N b nb no n cap h hb hn hlt w hnb hN
attribute [local irreducible] lb mdN
set_option maxRecDepth 100000 in
set_option maxHeartbeats 2000000 in
theorem addmod_any (a b m : Nat) (ha : a < MM) (hb : b < MM) (hm : m < MM) (w : World) :
    Calls Try.prog 16 #[W a, W b, W m] w fun e w' => e = .returned (W (mdN (a + b) m)) ∧ Below w.heap.size w w' := by
  have hN : a + b < B64 ^ 5 := by
    have e : B64 ^ 5 = MM * B64 := by unfold MM; rw [Nat.pow_succ]
    rw [e]; unfold B64; omega
  have hLat : ∀ j, j < 5 → (#[.int .u64 (lb (a + b) 0), .int .u64 (lb (a + b) 1), .int .u64 (lb (a + b) 2), .int .u64 (lb (a + b) 3), .int .u64 (lb (a + b) 4)] : Array Value)[j]? = some (.int .u64 (((a + b) / B64 ^ j % B64 : Nat) : Int)) := fun j hj => by
    match j, hj with
    | 0, _ | 1, _ | 2, _ | 3, _ | 4, _ => simp only [natLb]; rfl
  have M : Blk ((((w.alloc (.cells (Wc a) 24)).alloc (.cells (Wc b) 24)).alloc (.cells (Wc m) 24)).alloc (.cells #[.int .u64 0, .int .u64 0, .int .u64 0, .int .u64 0] 24)) (w.heap.size + 1 + 1) 24 (Wc m) := by
    have h := Blk.newS (w.alloc (.cells (Wc a) 24)) (.cells (Wc b) 24) 24 (Wc m)
    rw [World.size_alloc] at h
    exact h.alloc _
  have R : Blk ((((w.alloc (.cells (Wc a) 24)).alloc (.cells (Wc b) 24)).alloc (.cells (Wc m) 24)).alloc (.cells #[.int .u64 0, .int .u64 0, .int .u64 0, .int .u64 0] 24)) (w.heap.size + 1 + 1 + 1) 24 #[.int .u64 0, .int .u64 0, .int .u64 0, .int .u64 0] := by
    have h := Blk.newS ((w.alloc (.cells (Wc a) 24)).alloc (.cells (Wc b) 24)) (.cells (Wc m) 24) 24 #[.int .u64 0, .int .u64 0, .int .u64 0, .int .u64 0]
    rwa [World.size_alloc, World.size_alloc] at h
  have hW : Below w.heap.size w ((((w.alloc (.cells (Wc a) 24)).alloc (.cells (Wc b) 24)).alloc (.cells (Wc m) 24)).alloc (.cells #[.int .u64 0, .int .u64 0, .int .u64 0, .int .u64 0] 24)) := balloc (balloc (balloc (balloc (Below.refl _ _) _) _) _) _
  have HM1 := Lib.hid M
  have HR1 := Lib.hid R
  have HW1 := Lib.hid hW
  have HS := Lib.hid (sum_any a b ha hb ((((w.alloc (.cells (Wc a) 24)).alloc (.cells (Wc b) 24)).alloc (.cells (Wc m) 24)).alloc (.cells #[.int .u64 0, .int .u64 0, .int .u64 0, .int .u64 0] 24)))
  have HMM := Lib.hid hm
  have HN := Lib.hid hN
  have HL := Lib.hid hLat
  clear M R hW ha hb hm hN hLat
  go_enter Try.func16, Try.ntmps16
  go_wp2_with fail
  refine HS.out.mono ?_
  rintro e W0 ⟨rfl, hk⟩
  have M := (HM1.out.block_below hk).alloc (.cells #[.int .u64 (lb (a + b) 0), .int .u64 (lb (a + b) 1), .int .u64 (lb (a + b) 2), .int .u64 (lb (a + b) 3), .int .u64 (lb (a + b) 4)] 59)
  have R := HR1.out.block_below hk
  have hsn : w.heap.size + 1 + 1 + 1 < W0.heap.size := R.lt
  have R := R.alloc (.cells #[.int .u64 (lb (a + b) 0), .int .u64 (lb (a + b) 1), .int .u64 (lb (a + b) 2), .int .u64 (lb (a + b) 3), .int .u64 (lb (a + b) 4)] 59)
  have S := Blk.new W0 59 #[.int .u64 (lb (a + b) 0), .int .u64 (lb (a + b) 1), .int .u64 (lb (a + b) 2), .int .u64 (lb (a + b) 3), .int .u64 (lb (a + b) 4)]
  have hW := balloc (bstep HW1.out hk) (.cells #[.int .u64 (lb (a + b) 0), .int .u64 (lb (a + b) 1), .int .u64 (lb (a + b) 2), .int .u64 (lb (a + b) 3), .int .u64 (lb (a + b) 4)] 59)
  clear HM1 HR1 HW1 hk HS
  go_upto_region 2 with fail
  obtain ⟨W1, hW1⟩ : ∃ W1, W0.alloc (.cells #[.int .u64 (lb (a + b) 0), .int .u64 (lb (a + b) 1), .int .u64 (lb (a + b) 2), .int .u64 (lb (a + b) 3), .int .u64 (lb (a + b) 4)] 59) = W1 := ⟨_, rfl⟩
  rw [hW1] at M R S hW ⊢
  clear hW1
  generalize W0.heap.size = sn at S hsn ⊢
  have cM0 : ∀ w', HeldR W1 (w.heap.size + 1 + 1 + 1) w' → w'.cell? ⟨w.heap.size + 1 + 1, 0, none⟩ = some (.int .u64 (lb (m) 0)) := fun w' h => h.at M (by omega) rfl
  have cM1 : ∀ w', HeldR W1 (w.heap.size + 1 + 1 + 1) w' → w'.cell? ⟨w.heap.size + 1 + 1, 1, none⟩ = some (.int .u64 (lb (m) 1)) := fun w' h => h.at M (by omega) rfl
  have cM2 : ∀ w', HeldR W1 (w.heap.size + 1 + 1 + 1) w' → w'.cell? ⟨w.heap.size + 1 + 1, 2, none⟩ = some (.int .u64 (lb (m) 2)) := fun w' h => h.at M (by omega) rfl
  have cM3 : ∀ w', HeldR W1 (w.heap.size + 1 + 1 + 1) w' → w'.cell? ⟨w.heap.size + 1 + 1, 3, none⟩ = some (.int .u64 (lb (m) 3)) := fun w' h => h.at M (by omega) rfl
  have cR0 : ∀ w', HeldR W1 (w.heap.size + 1 + 1 + 1) w' → w'.cell? ⟨w.heap.size + 1 + 1 + 1, 0, none⟩ = some (cellv w' ⟨w.heap.size + 1 + 1 + 1, 0, none⟩) := fun w' h => h.cell 0 (by omega)
  have fR0 : ∀ w', HeldR W1 (w.heap.size + 1 + 1 + 1) w' → w'.frozen? ⟨w.heap.size + 1 + 1 + 1, 0, none⟩ = false := fun w' h => h.frozen 0
  have cR1 : ∀ w', HeldR W1 (w.heap.size + 1 + 1 + 1) w' → w'.cell? ⟨w.heap.size + 1 + 1 + 1, 1, none⟩ = some (cellv w' ⟨w.heap.size + 1 + 1 + 1, 1, none⟩) := fun w' h => h.cell 1 (by omega)
  have fR1 : ∀ w', HeldR W1 (w.heap.size + 1 + 1 + 1) w' → w'.frozen? ⟨w.heap.size + 1 + 1 + 1, 1, none⟩ = false := fun w' h => h.frozen 1
  have cR2 : ∀ w', HeldR W1 (w.heap.size + 1 + 1 + 1) w' → w'.cell? ⟨w.heap.size + 1 + 1 + 1, 2, none⟩ = some (cellv w' ⟨w.heap.size + 1 + 1 + 1, 2, none⟩) := fun w' h => h.cell 2 (by omega)
  have fR2 : ∀ w', HeldR W1 (w.heap.size + 1 + 1 + 1) w' → w'.frozen? ⟨w.heap.size + 1 + 1 + 1, 2, none⟩ = false := fun w' h => h.frozen 2
  have cR3 : ∀ w', HeldR W1 (w.heap.size + 1 + 1 + 1) w' → w'.cell? ⟨w.heap.size + 1 + 1 + 1, 3, none⟩ = some (cellv w' ⟨w.heap.size + 1 + 1 + 1, 3, none⟩) := fun w' h => h.cell 3 (by omega)
  have fR3 : ∀ w', HeldR W1 (w.heap.size + 1 + 1 + 1) w' → w'.frozen? ⟨w.heap.size + 1 + 1 + 1, 3, none⟩ = false := fun w' h => h.frozen 3
  have HD := Lib.hid (show ∀ w', HeldR W1 (w.heap.size + 1 + 1 + 1) w' → Calls Try.prog 24 #[W m, .slice (some ⟨sn, 0, none⟩) 5 5] w' fun e w'' => e = .returned (WL ((a + b) / m) (mdN (a + b) m)) ∧ Below w'.heap.size w' w'' from fun w' h =>
    divide_all (a + b) m sn 0 5 5 HMM.out (by omega) HN.out w' (h.blk S (by omega)).lt (fun j hj => by rw [Nat.zero_add]; exact h.at S (by omega) (HL.out j hj)))
  have h0 : HeldR W1 (w.heap.size + 1 + 1 + 1) W1.drew := HeldR.start rfl R
  have HW := Lib.hid hW
  clear M R S hW hsn HMM HN HL
  go_region_held3 (fun w' => HeldR W1 (w.heap.size + 1 + 1 + 1) w') (first | assumption | exact HeldR.call (by assumption) (by assumption) | exact HeldR.set (HeldR.set (HeldR.set (HeldR.set (by assumption) _ _) _ _) _ _) _ _)
    (first
      | (go_at_call 24; refine (HD.out _ (by assumption)).mono ?_; rintro e wk ⟨rfl, hk⟩; have hH : HeldR W1 (w.heap.size + 1 + 1 + 1) wk := HeldR.call hk (by assumption))
      | (go_at_call 23; refine (told_rest _ _ _).mono ?_; rintro e wk ⟨rfl, hk⟩; have hH : HeldR W1 (w.heap.size + 1 + 1 + 1) wk := HeldR.call hk (by assumption)))
  all_goals
    go_wp2
    exact bodyPost_ret (v := W (mdN (a + b) m)) (by simp [results, Try.results16, go_sem, cR0 _ hH, cR1 _ hH, cR2 _ hH, cR3 _ hH]) rfl ⟨rfl, HeldR.below (by assumption) HW.out (Nat.le_refl _) (by omega)⟩
end Go.Proofs.Ythdapmceafnhgaa
