/- policy's laws: the address of a text of forty digits. -/
import Derived.Test.YtenepkgjdoddgaaGreatDoorSx
import Derived.Test.YtenepkgjdoddgaaGreatDoorSw
namespace Go.Proofs.YtenepkgjdoddgaaGreatDoor
open Go.RowKit Go.Shelf

set_option maxRecDepth 100000 in
set_option maxHeartbeats 2000000 in
theorem orS_any (x y : ByteArray) (g : Nat) (t : TypeId) (w : World) (hg : Blk w g t #[.string x, .string y]) (hy : y.toList ≠ []) :
    Calls Tryz.prog 64 #[.slice (some ⟨g, 0, none⟩) 2 2] w fun e w' => e = .returned (.string (if x.data.toList = [] then y else x)) ∧ w = w' := by
  have k0 := cell_of_row _ _ 0 _ _ _ hg
  have k1 := cell_of_row _ _ 1 _ _ _ hg
  clear hg
  by_cases h1 : x.data.toList = []
  · rw [if_pos h1]
    have b1 : (x.toList == []) = true := by rw [ByteArray.toList_eq, h1]; rfl
    have b2 : (y.toList == []) = false := by rw [beq_eq_false_iff_ne]; exact hy
    clear h1 hy
    go_enter Tryz.func64, Tryz.ntmps64
    go_wp2_with fail
    refine wp_loop_rounds 3 ?_
    rw [rounds_succ]
    go_wp2_with fail
    rw [rounds_succ]
    go_wp2_with fail
    go_ret
    exact ⟨rfl, rfl⟩
  · rw [if_neg h1]
    have b1 : (x.toList == []) = false := by rw [beq_eq_false_iff_ne, ByteArray.toList_eq]; exact h1
    clear h1 hy
    go_enter Tryz.func64, Tryz.ntmps64
    go_wp2_with fail
    refine wp_loop_rounds 3 ?_
    rw [rounds_succ]
    go_wp2_with fail
    go_ret
    exact ⟨rfl, rfl⟩
theorem cutP_0x (T : List UInt8) (w : World) : Calls Tryz.prog 62 #[.string ⟨(48 :: 120 :: T).toArray⟩, .string ⟨#[48, 120]⟩] w fun e w' => e = .returned (.tuple #[.string ⟨T.toArray⟩, .bool true]) ∧ w = w' :=
  (cutPrefix_any ⟨(48 :: 120 :: T).toArray⟩ ⟨#[48, 120]⟩ w).mono fun _ _ h => ⟨h.1.trans (by
    show Ending.returned (Value.tuple #[.string ⟨(Lib.trimPrefix (48 :: 120 :: T) [48, 120]).toArray⟩, .bool (Lib.hasPrefix (48 :: 120 :: T) [48, 120])]) = _
    simp [Lib.trimPrefix, Lib.hasPrefix]), h.2⟩
/-- What word.Parse is given. -/
def adT (T : List UInt8) : List UInt8 := if Lib.trimLeftB T 48 = [] then [48] else Lib.trimLeftB T 48
theorem adT_val (T : List UInt8) : valL (adT T) = valL T := by
  unfold adT
  rw [← valL_trim T]
  by_cases h : Lib.trimLeftB T 48 = []
  · rw [if_pos h, h]; rfl
  · rw [if_neg h]
theorem adT_parts (T : List UInt8) (hok : ∀ y ∈ T, dv y < 16) : (adT T).length ≤ max 1 T.length ∧ (∀ y ∈ adT T, dv y < 16) ∧ ∃ x l, adT T = x :: l ∧ (x ≠ 48 ∨ l = []) := by
  unfold adT
  by_cases h : Lib.trimLeftB T 48 = []
  · rw [if_pos h]
    exact ⟨Nat.le_max_left _ _, fun y hy => by simp at hy; subst hy; decide, 48, [], rfl, .inr rfl⟩
  · rw [if_neg h]
    have hs : (Lib.trimLeftB T 48).Sublist T := by unfold Lib.trimLeftB; exact List.dropWhile_sublist _
    refine ⟨Nat.le_trans hs.length_le (Nat.le_max_right _ _), fun y hy => hok y (hs.subset hy), ?_⟩
    cases hT : Lib.trimLeftB T 48 with
    | nil => exact (h hT).elim
    | cons x l =>
      refine ⟨x, l, rfl, .inl fun e => ?_⟩
      have h0 := List.head_dropWhile_not (fun y : UInt8 => y == 48) (l := T) (by unfold Lib.trimLeftB at h; exact h)
      unfold Lib.trimLeftB at hT
      simp only [hT, List.head_cons, e] at h0
      exact absurd h0 (by decide)
theorem adT_or (T : List UInt8) : (if (⟨(Lib.trimLeftB T 48).toArray⟩ : ByteArray).data.toList = [] then (⟨#[48]⟩ : ByteArray) else ⟨(Lib.trimLeftB T 48).toArray⟩) = ⟨(adT T).toArray⟩ := by
  unfold adT
  show (if Lib.trimLeftB T 48 = [] then (⟨#[48]⟩ : ByteArray) else ⟨(Lib.trimLeftB T 48).toArray⟩) = _
  by_cases h : Lib.trimLeftB T 48 = []
  · rw [if_pos h, if_pos h]
  · rw [if_neg h, if_neg h]
theorem lead_app (T : List UInt8) : (⟨#[48, 120]⟩ : ByteArray) ++ ⟨T.toArray⟩ = ⟨(48 :: 120 :: T).toArray⟩ := by
  apply WideShapes.bytes_inj
  simp
set_option maxRecDepth 100000 in
set_option maxHeartbeats 4000000 in
theorem address_ok (T : List UInt8) (hl : T.length = 40) (hok : ∀ y ∈ T, dv y < 16) (w : World) :
    Calls Tryz.prog 26 #[.string ⟨(48 :: 120 :: T).toArray⟩] w fun e w' => e = .returned (.tuple #[.agg (adC (lowA (valL T))), .int .i64 0]) ∧ Below w.heap.size w w' := by
  obtain ⟨p1, p2, x, l, p3, p4⟩ := adT_parts T hok
  have hlen : (adT T).length ≤ 64 := by rw [hl] at p1; omega
  have hp := fun X => parse_list (adT T) hlen x l p3 p4 p2 X
  rw [adT_val] at hp
  have HP := Lib.hid hp
  have HA := Lib.hid (lowA_ad (valL T))
  have hsz : (⟨T.toArray⟩ : ByteArray).size = 40 := hl
  have hszT : (⟨(adT T).toArray⟩ : ByteArray).size ≤ 64 := hlen
  have happ := lead_app (adT T)
  have htr := fun X => trimLeft_any ⟨T.toArray⟩ 48 (by decide) X
  obtain ⟨Z, hZ⟩ : ∃ Z, (⟨(Lib.trimLeftB (⟨T.toArray⟩ : ByteArray).data.toList 48).toArray⟩ : ByteArray) = Z := ⟨_, rfl⟩
  have hor : (if Z.data.toList = [] then (⟨#[48]⟩ : ByteArray) else Z) = ⟨(adT T).toArray⟩ := by rw [← hZ]; exact adT_or T
  rw [hZ] at htr
  have HT := Lib.hid htr
  have HO := Lib.hid hor
  obtain ⟨U, hU⟩ : ∃ U, (⟨(adT T).toArray⟩ : ByteArray) = U := ⟨_, rfl⟩
  rw [hU] at happ hszT HO
  have HC := Lib.hid (fun X => cutP_0x T X)
  have HPP := Lib.hid (fun X => HP.out X)
  clear p1 p2 p3 p4 hlen hp htr hor hok hl hZ hU HP
  obtain ⟨TB, hTB⟩ : ∃ TB, (⟨T.toArray⟩ : ByteArray) = TB := ⟨_, rfl⟩
  rw [hTB] at hsz HT
  simp only [hTB] at HC
  obtain ⟨n, hn⟩ : ∃ n, valL T = n := ⟨_, rfl⟩
  rw [hn] at HA ⊢
  simp only [hn] at HPP
  obtain ⟨S, hS⟩ : ∃ S, (⟨(48 :: 120 :: T).toArray⟩ : ByteArray) = S := ⟨_, rfl⟩
  rw [hS]
  simp only [hS] at HC
  obtain ⟨S2, hS2⟩ : ∃ S2, (⟨(48 :: 120 :: adT T).toArray⟩ : ByteArray) = S2 := ⟨_, rfl⟩
  rw [hS2] at happ
  simp only [hS2] at HPP
  clear hTB hn hS hS2
  go_enter Tryz.func26, Tryz.ntmps26
  go_upto_region 7 with (first
    | (go_at_call 62; refine (HC.out _).mono ?_; rintro e w' ⟨rfl, rfl⟩)
    | (go_at_call 65; refine (HT.out _).mono ?_; rintro e w' ⟨rfl, rfl⟩)
    | fail)
  rw [← zaC_lit]
  have hZ0 := (Blk.new w 29 zaC).alloc (.cells #[.string Z, .string ⟨#[48]⟩] 9)
  have hO0 := Blk.newS w (.cells zaC 29) 9 #[.string Z, .string ⟨#[48]⟩]
  have hW0 := balloc (balloc (Below.refl w.heap.size w) (.cells zaC 29)) (.cells #[.string Z, .string ⟨#[48]⟩] 9)
  obtain ⟨X1, hX1⟩ : ∃ X1, (w.alloc (.cells zaC 29)).alloc (.cells #[.string Z, .string ⟨#[48]⟩] 9) = X1 := ⟨_, rfl⟩
  rw [hX1] at hZ0 hO0 hW0 ⊢
  have hOr := orS_any Z ⟨#[48]⟩ (w.heap.size + 1) 9 X1 hO0 (by rw [ByteArray.toList_eq]; decide)
  rw [HO.out] at hOr
  refine hOr.mono ?_
  rintro e X2 ⟨rfl, rfl⟩
  have HX := Lib.hid (And.intro hZ0 hW0)
  clear hX1 hOr hO0 hZ0 hW0 HO HT HC
  rename_i K hK
  refine hK _ _ ?_
  clear hK K
  go_upto_region 7 with (first
    | (go_at_call 63; refine (HPP.out _).mono ?_; rintro e X2 ⟨rfl, h2⟩)
    | fail)
  have hB3 := Blk.new X2 58 #[.int .u64 (lb n 0), .int .u64 (lb n 1), .int .u64 (lb n 2), .int .u64 (lb n 3)]
  have hZ3 := (HX.out.1.keep h2).alloc (.cells #[.int .u64 (lb n 0), .int .u64 (lb n 1), .int .u64 (lb n 2), .int .u64 (lb n 3)] 58)
  have hW3 := balloc (bstep HX.out.2 h2) (.cells #[.int .u64 (lb n 0), .int .u64 (lb n 1), .int .u64 (lb n 2), .int .u64 (lb n 3)] 58)
  obtain ⟨X3, hX3⟩ : ∃ X3, X2.alloc (.cells #[.int .u64 (lb n 0), .int .u64 (lb n 1), .int .u64 (lb n 2), .int .u64 (lb n 3)] 58) = X3 := ⟨_, rfl⟩
  rw [hX3] at hB3 hZ3 hW3 ⊢
  have c0 : X3.cell? ⟨X2.heap.size, 0, none⟩ = some (.int .u64 (lb n 0)) := cell_of_row _ _ 0 _ _ _ hB3
  have c1 : X3.cell? ⟨X2.heap.size, 1, none⟩ = some (.int .u64 (lb n 1)) := cell_of_row _ _ 1 _ _ _ hB3
  have c2 : X3.cell? ⟨X2.heap.size, 2, none⟩ = some (.int .u64 (lb n 2)) := cell_of_row _ _ 2 _ _ _ hB3
  have c3 : X3.cell? ⟨X2.heap.size, 3, none⟩ = some (.int .u64 (lb n 3)) := cell_of_row _ _ 3 _ _ _ hB3
  have HH := Lib.hid (And.intro hZ3 hW3)
  clear hB3 hZ3 hW3 hX3 h2 HX HPP
  generalize X2.heap.size = g2 at c0 c1 c2 c3 ⊢
  refine wp_region_lit ?_
  refine wpList_plain rfl fun K hK => ?_
  go_simp
  refine hK _ _ ?_
  clear hK K
  refine wpList_plain rfl fun K hK => ?_
  go_simp
  refine (ofW_any n X3).mono ?_
  rintro e X4 ⟨rfl, h4⟩
  refine hK _ _ ?_
  clear hK K c0 c1 c2 c3
  have hZ := HH.out.1.keep h4
  refine wpList_store_row rfl 29 (.tmp 2) (.tmp 34) rfl w.heap.size (adC (lowA n)) rfl rfl 29 zaC hZ (by rw [info_addr, adC_size HA.out]) (by rw [zaC_size, adC_size HA.out]) (adC_one _) ?_
  have hgr : Blk (X4.setRow w.heap.size (adC (lowA n))) w.heap.size 29 (adC (lowA n)) := setRow_heap _ _ _ _ _ _ hZ
  have HE := Lib.hid (And.intro hgr ((bstep HH.out.2 h4).trans (⟨rfl, rfl, rfl, by simp, fun k hk => setRow_other _ _ _ _ (by omega)⟩ : Below w.heap.size X4 (X4.setRow w.heap.size (adC (lowA n))))))
  clear hZ hgr
  generalize X4.setRow w.heap.size (adC (lowA n)) = Z at HE ⊢
  refine wpList_plain rfl fun K hK => ?_
  go_simp
  refine hK _ _ ?_
  clear hK K
  refine wpList_nil ?_
  go_wp2_with fail
  exact ⟨rfl, _, results_row_tmp rfl _ _ w.heap.size 29 (adC (lowA n)) (0, 0) _ rfl HE.out.1 und_addr rfl (by rw [info_addr, adC_size HA.out]), rfl, HE.out.2⟩
end Go.Proofs.YtenepkgjdoddgaaGreatDoor
