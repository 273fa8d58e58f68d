/- The reference's Digit and Parse, by contracts. -/
import Derived.Test.YtimmcljpfpimbaaDoorVc
namespace Go.Proofs.YtimmcljpfpimbaaDoor
open Go.RowKit
attribute [local go_sem] ix0 ix1 ix2 ix3

theorem dig_ix64 (n : Nat) (h : n < 16) (w : World) : (Instr.index 9 (.string ⟨#[48, 49, 50, 51, 52, 53, 54, 55, 56, 57, 97, 98, 99, 100, 101, 102]⟩) (.int .i64 n)).run Tryd.prog w = .ok (.int .u8 (dgN n)) w := by
  match n, h with
  | 0, _ | 1, _ | 2, _ | 3, _ | 4, _ | 5, _ | 6, _ | 7, _ | 8, _ | 9, _ | 10, _ | 11, _ | 12, _ | 13, _ | 14, _ | 15, _ => rfl
  | n + 16, h => exact absurd h (by omega)
theorem dv_of (b : UInt8) (k : Nat) (h : k < 16) (e : dgN k = b.toNat) : dv b = k := by
  unfold dv dgN at *
  split at e <;> (split <;> (try split)) <;> omega
theorem dgN_dv (b : UInt8) (h : dv b < 16) : dgN (dv b) = b.toNat := by
  unfold dv dgN at *
  split at h
  · rename_i g; rw [if_pos g]; split <;> omega
  · rename_i g
    rw [if_neg g]
    split at h
    · rename_i g2; rw [if_pos g2]; split <;> omega
    · omega
set_option maxRecDepth 100000 in
theorem rdigit_any (b : UInt8) (w : World) :
    Calls Tryd.prog 45 #[.int .u8 b.toNat] w fun e w' => e = .returned (.int .i64 (if dv b < 16 then (dv b : Int) else -1)) ∧ w = w' := by
  obtain ⟨r, hr⟩ : ∃ r : Int, (if dv b < 16 then (dv b : Int) else -1) = r := ⟨_, rfl⟩
  rw [hr]
  have HR := Lib.hid hr
  clear hr
  go_enter Tryd.func45, Tryd.ntmps45
  go_wp2_with fail
  go_loopw [3] (fun i wr => ∃ k : Nat, k ≤ 16 ∧ i = .int .i64 k ∧ (∀ j, j < k → dgN j ≠ b.toNat) ∧ wr = w) (fun i _ => 16 - (intOf i).toNat)
  case atStart => exact ⟨0, by omega, rfl, fun j h => by omega, rfl⟩
  case round =>
    obtain ⟨k, hk, rfl, hno, rfl⟩ := hrel
    have HN := Lib.hid hno
    clear hno
    by_cases hlt : k < 16
    · have hix := dig_ix64 k hlt wr
      by_cases he : dgN k = b.toNat
      · have E : Hid ((k : Int) = r) := by show _ = _; rw [← HR.out, dv_of b k hlt he, if_pos hlt]
        have he' : ((dgN k : Nat) : Int) = (b.toNat : Int) := by rw [he]
        rw [he'] at hix
        clear he he'
        go_wp2
        go_ret
        rw [E.out]
        exact ⟨rfl, rfl⟩
      · have he' : (((dgN k : Nat) : Int) == (b.toNat : Int)) = false := by simp; omega
        have HE := Lib.hid he
        clear he
        go_wp2
        exact ⟨⟨k + 1, by omega, by go_num, fun j hj => by
          rcases Nat.lt_succ_iff_lt_or_eq.1 hj with h | h
          · exact HN.out j h
          · subst h; exact HE.out, trivial⟩, by simp [intOf]; omega⟩
    · obtain rfl : k = 16 := by omega
      have E : Hid (-1 = r) := by
        show _ = _
        rw [← HR.out, if_neg (fun h => HN.out (dv b) h (dgN_dv b h))]
      go_wp2
      go_ret
      rw [← E.out]
      exact ⟨rfl, rfl⟩

/-- Too short, or not 0x ahead. -/
theorem rparse_bare (s : ByteArray) (h : s.size < 3 ∨ (3 ≤ s.size ∧ ((s.extract 0 2).toList == [48, 120]) = false)) (hm : s.size ≤ 100) (w : World) :
    Calls Tryd.prog 30 #[.string s] w fun e w' => e = .returned (.tuple #[W 0, .int .i64 110]) ∧ Below w.heap.size w w' := by
  rw [W_zero]
  rcases h with h | ⟨h3, hp⟩
  · have h' : (s.size : Int) < 3 := by omega
    go_enter Tryd.func30, Tryd.ntmps30
    go_wp2
    exact bodyPost_ret (v := .tuple #[.agg #[.int .u64 0, .int .u64 0, .int .u64 0, .int .u64 0], .int .i64 110]) (by simp [results, Tryd.results30, go_sem]) rfl ⟨rfl, by first | exact balloc (Below.refl _ _) _ | exact balloc (balloc (Below.refl _ _) _) _⟩
  · have h' : (3 : Int) ≤ (s.size : Int) := by omega
    go_enter Tryd.func30, Tryd.ntmps30
    go_wp2
    all_goals first
      | (exfalso; simp_all; done)
      | exact bodyPost_ret (v := .tuple #[.agg #[.int .u64 0, .int .u64 0, .int .u64 0, .int .u64 0], .int .i64 110]) (by simp [results, Tryd.results30, go_sem]) rfl ⟨rfl, by first | exact balloc (Below.refl _ _) _ | exact balloc (balloc (Below.refl _ _) _) _⟩
/-- Too long. -/
theorem rparse_long (s : ByteArray) (h : 66 < s.size) (hp : ((s.extract 0 2).toList == [48, 120]) = true) (hm : s.size ≤ 100) (w : World) :
    Calls Tryd.prog 30 #[.string s] w fun e w' => e = .returned (.tuple #[W 0, .int .i64 3]) ∧ Below w.heap.size w w' := by
  rw [W_zero]
  have h' : (3 : Int) ≤ (s.size : Int) := by omega
  have h66 : (66 : Int) < (s.size : Int) := by omega
  go_enter Tryd.func30, Tryd.ntmps30
  go_wp2
  all_goals first
    | (exfalso; simp_all; done)
    | (exfalso; omega)
    | exact bodyPost_ret (v := .tuple #[.agg #[.int .u64 0, .int .u64 0, .int .u64 0, .int .u64 0], .int .i64 3]) (by simp [results, Tryd.results30, go_sem]) rfl ⟨rfl, by first | exact balloc (Below.refl _ _) _ | exact balloc (balloc (Below.refl _ _) _) _⟩

theorem blk_set4 {w : World} {g : Nat} {t : TypeId} {s : Nat} (h : Blk w g t (Wc s)) (a b c d : Int) :
    Blk ((((w.setCell ⟨g, 0, none⟩ (.int .u64 a)).setCell ⟨g, 1, none⟩ (.int .u64 b)).setCell ⟨g, 2, none⟩ (.int .u64 c)).setCell ⟨g, 3, none⟩ (.int .u64 d)) g t #[.int .u64 a, .int .u64 b, .int .u64 c, .int .u64 d] :=
  heap_setCell_same _ g 3 _ _ _ (heap_setCell_same _ g 2 _ _ _ (heap_setCell_same _ g 1 _ _ _ (heap_setCell_same w g 0 _ _ _ h)))
theorem blk_set4_far {w : World} {p g : Nat} {t : TypeId} {cs : Array Value} (h : Blk w p t cs) (hne : p ≠ g) (a b c d : Int) :
    Blk ((((w.setCell ⟨g, 0, none⟩ (.int .u64 a)).setCell ⟨g, 1, none⟩ (.int .u64 b)).setCell ⟨g, 2, none⟩ (.int .u64 c)).setCell ⟨g, 3, none⟩ (.int .u64 d)) p t cs :=
  (Below.heap_setCell _ ⟨g, 3, none⟩ _ p hne).trans ((Below.heap_setCell _ ⟨g, 2, none⟩ _ p hne).trans ((Below.heap_setCell _ ⟨g, 1, none⟩ _ p hne).trans ((Below.heap_setCell _ ⟨g, 0, none⟩ _ p hne).trans h)))
theorem below_set4 {n : Nat} {w w' : World} (h : Below n w w') {g : Nat} (hg : n ≤ g) (a b c d : Int) :
    Below n w ((((w'.setCell ⟨g, 0, none⟩ (.int .u64 a)).setCell ⟨g, 1, none⟩ (.int .u64 b)).setCell ⟨g, 2, none⟩ (.int .u64 c)).setCell ⟨g, 3, none⟩ (.int .u64 d)) :=
  (((h.setCell (p := ⟨g, 0, none⟩) hg _).setCell (p := ⟨g, 1, none⟩) hg _).setCell (p := ⟨g, 2, none⟩) hg _).setCell (p := ⟨g, 3, none⟩) hg _

set_option maxRecDepth 100000 in
set_option maxHeartbeats 4000000 in
/-- A digit that is none's. -/
theorem rparse_bad (s : ByteArray) (h3 : 3 ≤ s.size) (h66 : s.size ≤ 66) (hp : ((s.extract 0 2).toList == [48, 120]) = true) (q : Nat) (hq : 2 ≤ q ∧ q < s.size) (hqb : ¬ dv (s.data.toList.getD q 0) < 16) (w : World) :
    Calls Tryd.prog 30 #[.string s] w fun e w' => e = .returned (.tuple #[W 0, .int .i64 110]) ∧ Below w.heap.size w w' := by
  rw [W_zero]
  have h' : (3 : Int) ≤ (s.size : Int) := by omega
  have h2' : (2 : Int) ≤ (s.size : Int) := by omega
  have h66' : (s.size : Int) ≤ 66 := by omega
  have HQ := Lib.hid hq
  have HQB := Lib.hid hqb
  clear hq hqb
  go_enter Tryd.func30, Tryd.ntmps30
  go_wp2_with fail
  go_loopw [5] (fun iv wr => ∃ i : Nat, 2 ≤ i ∧ i ≤ s.size ∧ iv = .int .i64 i ∧ Hid (∀ j, 2 ≤ j → j < i → dv (s.data.toList.getD j 0) < 16) ∧ Blk wr (w.heap.size + 1) 24 (Wc (numD (s.data.toList.drop 2) (i - 2))) ∧ Blk wr w.heap.size 24 (Wc 0) ∧ Below w.heap.size w wr) (fun iv _ => s.size - (intOf iv).toNat)
  case atStart =>
    have ha := Blk.newS w (.cells (Wc 0) 24) 24 (Wc 0)
    have hr := (Blk.new w 24 (Wc 0)).alloc (.cells (Wc 0) 24)
    simp only [Wc, lb_zero] at ha hr
    refine ⟨2, by omega, by omega, rfl, fun j h1 h2 => by omega, ?_, ?_, balloc (balloc (Below.refl _ _) _) _⟩
    · simp only [Wc, Nat.sub_self, numD, lb_zero]; exact ha
    · simp only [Wc, lb_zero]; exact hr
  case round =>
    obtain ⟨i, hi2, hi, rfl, hd, ha, hr, hB⟩ := hrel
    have HB := Lib.hid hB
    clear hB
    by_cases hlt : i < s.size
    · obtain ⟨b, hb⟩ : ∃ b, s[i]'hlt = b := ⟨_, rfl⟩
      have hg : Hid (s.data.toList.getD i 0 = b) := by
        show _ = _
        rw [← hb]; simp [List.getD, List.getElem?_eq_getElem (show i < s.data.toList.length by simpa using hlt)]; rfl
      have hg2 : Hid ((s.data.toList.drop 2).getD (i - 2) 0 = b) := by
        show _ = _
        rw [← hg.out]; simp [List.getD]; congr 2; omega
      have hlt' : (i : Int) < (s.size : Int) := by omega
      by_cases hdv : dv b < 16
      · have hnext : Hid (∀ j, 2 ≤ j → j < i + 1 → dv (s.data.toList.getD j 0) < 16) := fun j h1 h2 => by
          rcases Nat.lt_succ_iff_lt_or_eq.1 h2 with h | h
          · exact hd.out j h1 h
          · subst h; rw [hg.out]; exact hdv
        have hsum : Hid (numD (s.data.toList.drop 2) (i - 2) * 16 + dv b = numD (s.data.toList.drop 2) (i + 1 - 2)) := by
          show _ = _
          rw [show i + 1 - 2 = (i - 2) + 1 by omega]
          show _ = numD _ (i - 2) * 16 + dv ((s.data.toList.drop 2).getD (i - 2) 0)
          rw [hg2.out]
        have hdi : ¬ ((dv b : Nat) : Int) < 0 := by omega
        have hcv : IntKind.u64.wrap ((dv b : Nat) : Int) = ((dv b : Nat) : Int) := IntWalk.u64_in _ (by omega)
        have h0 : Below wr.heap.size wr wr.drew := (Below.refl _ _).drew
        have hE : Hid ((if dv b < 16 then (dv b : Int) else -1) = ((dv b : Nat) : Int)) := if_pos hdv
        have c0 : ∀ w', Below wr.heap.size wr w' → w'.cell? ⟨w.heap.size + 1, 0, none⟩ = some (.int .u64 (lb (numD (s.data.toList.drop 2) (i - 2)) 0)) := fun w' h => (h.cell (p := ⟨w.heap.size + 1, 0, none⟩) ha.lt).trans ((cell_of_row wr _ 0 _ _ _ ha).trans (wc_get _ 0 (by omega)))
        have f0 : ∀ w', Below wr.heap.size wr w' → w'.frozen? ⟨w.heap.size + 1, 0, none⟩ = false := fun w' h => frozen_of_row w' _ 0 _ _ (ha.keep h)
        have c1 : ∀ w', Below wr.heap.size wr w' → w'.cell? ⟨w.heap.size + 1, 1, none⟩ = some (.int .u64 (lb (numD (s.data.toList.drop 2) (i - 2)) 1)) := fun w' h => (h.cell (p := ⟨w.heap.size + 1, 1, none⟩) ha.lt).trans ((cell_of_row wr _ 1 _ _ _ ha).trans (wc_get _ 1 (by omega)))
        have f1 : ∀ w', Below wr.heap.size wr w' → w'.frozen? ⟨w.heap.size + 1, 1, none⟩ = false := fun w' h => frozen_of_row w' _ 1 _ _ (ha.keep h)
        have c2 : ∀ w', Below wr.heap.size wr w' → w'.cell? ⟨w.heap.size + 1, 2, none⟩ = some (.int .u64 (lb (numD (s.data.toList.drop 2) (i - 2)) 2)) := fun w' h => (h.cell (p := ⟨w.heap.size + 1, 2, none⟩) ha.lt).trans ((cell_of_row wr _ 2 _ _ _ ha).trans (wc_get _ 2 (by omega)))
        have f2 : ∀ w', Below wr.heap.size wr w' → w'.frozen? ⟨w.heap.size + 1, 2, none⟩ = false := fun w' h => frozen_of_row w' _ 2 _ _ (ha.keep h)
        have c3 : ∀ w', Below wr.heap.size wr w' → w'.cell? ⟨w.heap.size + 1, 3, none⟩ = some (.int .u64 (lb (numD (s.data.toList.drop 2) (i - 2)) 3)) := fun w' h => (h.cell (p := ⟨w.heap.size + 1, 3, none⟩) ha.lt).trans ((cell_of_row wr _ 3 _ _ _ ha).trans (wc_get _ 3 (by omega)))
        have f3 : ∀ w', Below wr.heap.size wr w' → w'.frozen? ⟨w.heap.size + 1, 3, none⟩ = false := fun w' h => frozen_of_row w' _ 3 _ _ (ha.keep h)
        have HA := Lib.hid ha
        have HR := Lib.hid hr
        have HDV := Lib.hid hdv
        clear ha hr hdv
        go_wp2_with (first | (go_at_call 45; refine (rdigit_any b _).mono ?_; rw [hE.out]; rintro e _ ⟨rfl, rfl⟩) | fail)
        go_region_law (first
          | (go_simp; go_at_call 20; refine (rof_any 16 (by decide) _).mono ?_; rintro e wk1 ⟨rfl, hk1⟩; have hH1 : Below wr.heap.size wr wk1 := rstep hk1 (by assumption))
          | (go_simp; go_at_call 20; refine (rof_any (dv b) (Nat.lt_trans HDV.out (by decide)) _).mono ?_; rintro e wk3 ⟨rfl, hk3⟩; have hH3 : Below wr.heap.size wr wk3 := rstep hk3 (by assumption))
          | (go_simp; go_at_call 16; refine (rmul_any (numD (s.data.toList.drop 2) (i - 2)) 16 _).mono ?_; rintro e wk2 ⟨rfl, hk2⟩; have hH2 : Below wr.heap.size wr wk2 := rstep hk2 (by assumption))
          | (go_simp; go_at_call 12; refine (radd_any (numD (s.data.toList.drop 2) (i - 2) * 16) (dv b) _).mono ?_; rw [hsum.out]; rintro e wk4 ⟨rfl, hk4⟩; have hH4 : Below wr.heap.size wr wk4 := rstep hk4 (by assumption)))
        all_goals
          go_wp2
          have hA4 := blk_set4 (HA.out.keep hH4) (lb (numD (s.data.toList.drop 2) (i + 1 - 2)) 0) (lb (numD (s.data.toList.drop 2) (i + 1 - 2)) 1) (lb (numD (s.data.toList.drop 2) (i + 1 - 2)) 2) (lb (numD (s.data.toList.drop 2) (i + 1 - 2)) 3)
          have hR4 := blk_set4_far (HR.out.keep hH4) (g := w.heap.size + 1) (by omega) (lb (numD (s.data.toList.drop 2) (i + 1 - 2)) 0) (lb (numD (s.data.toList.drop 2) (i + 1 - 2)) 1) (lb (numD (s.data.toList.drop 2) (i + 1 - 2)) 2) (lb (numD (s.data.toList.drop 2) (i + 1 - 2)) 3)
          have hB4 := below_set4 (bstep HB.out hH4) (g := w.heap.size + 1) (by omega) (lb (numD (s.data.toList.drop 2) (i + 1 - 2)) 0) (lb (numD (s.data.toList.drop 2) (i + 1 - 2)) 1) (lb (numD (s.data.toList.drop 2) (i + 1 - 2)) 2) (lb (numD (s.data.toList.drop 2) (i + 1 - 2)) 3)
          exact ⟨⟨i + 1, by omega, by omega, by go_num, hnext, hA4, hR4, hB4⟩, by simp [intOf]; omega⟩
      · have hE : Hid ((if dv b < 16 then (dv b : Int) else -1) = -1) := if_neg hdv
        have r0 := (cell_of_row wr _ 0 _ _ _ hr).trans (wc_get 0 0 (by omega))
        have f0 := frozen_of_row wr _ 0 _ _ hr
        have r1 := (cell_of_row wr _ 1 _ _ _ hr).trans (wc_get 0 1 (by omega))
        have f1 := frozen_of_row wr _ 1 _ _ hr
        have r2 := (cell_of_row wr _ 2 _ _ _ hr).trans (wc_get 0 2 (by omega))
        have f2 := frozen_of_row wr _ 2 _ _ hr
        have r3 := (cell_of_row wr _ 3 _ _ _ hr).trans (wc_get 0 3 (by omega))
        have f3 := frozen_of_row wr _ 3 _ _ hr
        simp only [lb_zero] at r0 r1 r2 r3
        clear ha hr hdv
        go_wp2_with (first | (go_at_call 45; refine (rdigit_any b _).mono ?_; rw [hE.out]; rintro e _ ⟨rfl, rfl⟩) | fail)
        exact bodyPost_ret (v := .tuple #[.agg #[.int .u64 0, .int .u64 0, .int .u64 0, .int .u64 0], .int .i64 110]) (by simp [results, Tryd.results30, go_sem, r0, r1, r2, r3]) rfl ⟨rfl, below_set4 HB.out (g := w.heap.size) (Nat.le_refl _) 0 0 0 0⟩
    · exfalso
      exact HQB.out (hd.out q HQ.out.1 (by have := HQ.out.2; omega))


set_option maxRecDepth 100000 in
set_option maxHeartbeats 4000000 in
theorem rparse_not (s : ByteArray) (h3 : 3 ≤ s.size) (h66 : s.size ≤ 66) (hp : ((s.extract 0 2).toList == [48, 120]) = true) (hall : ∀ j, 2 ≤ j → j < s.size → dv (s.data.toList.getD j 0) < 16)
    (ht : (txtL (numD (s.data.toList.drop 2) (s.size - 2)) == s.toList) = false) (w : World) :
    Calls Tryd.prog 30 #[.string s] w fun e w' => e = .returned (.tuple #[W 0, .int .i64 110]) ∧ Below w.heap.size w w' := by
  rw [W_zero]
  have h' : (3 : Int) ≤ (s.size : Int) := by omega
  have h2' : (2 : Int) ≤ (s.size : Int) := by omega
  have h66' : (s.size : Int) ≤ 66 := by omega
  have HALL := Lib.hid hall
  have HT := Lib.hid ht
  clear hall ht
  go_enter Tryd.func30, Tryd.ntmps30
  go_wp2_with fail
  go_loopw [5] (fun iv wr => ∃ i : Nat, 2 ≤ i ∧ i ≤ s.size ∧ iv = .int .i64 i ∧ Hid (∀ j, 2 ≤ j → j < i → dv (s.data.toList.getD j 0) < 16) ∧ Blk wr (w.heap.size + 1) 24 (Wc (numD (s.data.toList.drop 2) (i - 2))) ∧ Blk wr w.heap.size 24 (Wc 0) ∧ Below w.heap.size w wr) (fun iv _ => s.size - (intOf iv).toNat)
  case atStart =>
    have ha := Blk.newS w (.cells (Wc 0) 24) 24 (Wc 0)
    have hr := (Blk.new w 24 (Wc 0)).alloc (.cells (Wc 0) 24)
    simp only [Wc, lb_zero] at ha hr
    refine ⟨2, by omega, by omega, rfl, fun j h1 h2 => by omega, ?_, ?_, balloc (balloc (Below.refl _ _) _) _⟩
    · simp only [Wc, Nat.sub_self, numD, lb_zero]; exact ha
    · simp only [Wc, lb_zero]; exact hr
  case round =>
    obtain ⟨i, hi2, hi, rfl, hd, ha, hr, hB⟩ := hrel
    have HB := Lib.hid hB
    clear hB
    by_cases hlt : i < s.size
    · obtain ⟨b, hb⟩ : ∃ b, s[i]'hlt = b := ⟨_, rfl⟩
      have hg : Hid (s.data.toList.getD i 0 = b) := by
        show _ = _
        rw [← hb]; simp [List.getD, List.getElem?_eq_getElem (show i < s.data.toList.length by simpa using hlt)]; rfl
      have hg2 : Hid ((s.data.toList.drop 2).getD (i - 2) 0 = b) := by
        show _ = _
        rw [← hg.out]; simp [List.getD]; congr 2; omega
      have hlt' : (i : Int) < (s.size : Int) := by omega
      by_cases hdv : dv b < 16
      · have hnext : Hid (∀ j, 2 ≤ j → j < i + 1 → dv (s.data.toList.getD j 0) < 16) := fun j h1 h2 => by
          rcases Nat.lt_succ_iff_lt_or_eq.1 h2 with h | h
          · exact hd.out j h1 h
          · subst h; rw [hg.out]; exact hdv
        have hsum : Hid (numD (s.data.toList.drop 2) (i - 2) * 16 + dv b = numD (s.data.toList.drop 2) (i + 1 - 2)) := by
          show _ = _
          rw [show i + 1 - 2 = (i - 2) + 1 by omega]
          show _ = numD _ (i - 2) * 16 + dv ((s.data.toList.drop 2).getD (i - 2) 0)
          rw [hg2.out]
        have hdi : ¬ ((dv b : Nat) : Int) < 0 := by omega
        have hcv : IntKind.u64.wrap ((dv b : Nat) : Int) = ((dv b : Nat) : Int) := IntWalk.u64_in _ (by omega)
        have h0 : Below wr.heap.size wr wr.drew := (Below.refl _ _).drew
        have hE : Hid ((if dv b < 16 then (dv b : Int) else -1) = ((dv b : Nat) : Int)) := if_pos hdv
        have c0 : ∀ w', Below wr.heap.size wr w' → w'.cell? ⟨w.heap.size + 1, 0, none⟩ = some (.int .u64 (lb (numD (s.data.toList.drop 2) (i - 2)) 0)) := fun w' h => (h.cell (p := ⟨w.heap.size + 1, 0, none⟩) ha.lt).trans ((cell_of_row wr _ 0 _ _ _ ha).trans (wc_get _ 0 (by omega)))
        have f0 : ∀ w', Below wr.heap.size wr w' → w'.frozen? ⟨w.heap.size + 1, 0, none⟩ = false := fun w' h => frozen_of_row w' _ 0 _ _ (ha.keep h)
        have c1 : ∀ w', Below wr.heap.size wr w' → w'.cell? ⟨w.heap.size + 1, 1, none⟩ = some (.int .u64 (lb (numD (s.data.toList.drop 2) (i - 2)) 1)) := fun w' h => (h.cell (p := ⟨w.heap.size + 1, 1, none⟩) ha.lt).trans ((cell_of_row wr _ 1 _ _ _ ha).trans (wc_get _ 1 (by omega)))
        have f1 : ∀ w', Below wr.heap.size wr w' → w'.frozen? ⟨w.heap.size + 1, 1, none⟩ = false := fun w' h => frozen_of_row w' _ 1 _ _ (ha.keep h)
        have c2 : ∀ w', Below wr.heap.size wr w' → w'.cell? ⟨w.heap.size + 1, 2, none⟩ = some (.int .u64 (lb (numD (s.data.toList.drop 2) (i - 2)) 2)) := fun w' h => (h.cell (p := ⟨w.heap.size + 1, 2, none⟩) ha.lt).trans ((cell_of_row wr _ 2 _ _ _ ha).trans (wc_get _ 2 (by omega)))
        have f2 : ∀ w', Below wr.heap.size wr w' → w'.frozen? ⟨w.heap.size + 1, 2, none⟩ = false := fun w' h => frozen_of_row w' _ 2 _ _ (ha.keep h)
        have c3 : ∀ w', Below wr.heap.size wr w' → w'.cell? ⟨w.heap.size + 1, 3, none⟩ = some (.int .u64 (lb (numD (s.data.toList.drop 2) (i - 2)) 3)) := fun w' h => (h.cell (p := ⟨w.heap.size + 1, 3, none⟩) ha.lt).trans ((cell_of_row wr _ 3 _ _ _ ha).trans (wc_get _ 3 (by omega)))
        have f3 : ∀ w', Below wr.heap.size wr w' → w'.frozen? ⟨w.heap.size + 1, 3, none⟩ = false := fun w' h => frozen_of_row w' _ 3 _ _ (ha.keep h)
        have HA := Lib.hid ha
        have HR := Lib.hid hr
        have HDV := Lib.hid hdv
        clear ha hr hdv
        go_wp2_with (first | (go_at_call 45; refine (rdigit_any b _).mono ?_; rw [hE.out]; rintro e _ ⟨rfl, rfl⟩) | fail)
        go_region_law (first
          | (go_simp; go_at_call 20; refine (rof_any 16 (by decide) _).mono ?_; rintro e wk1 ⟨rfl, hk1⟩; have hH1 : Below wr.heap.size wr wk1 := rstep hk1 (by assumption))
          | (go_simp; go_at_call 20; refine (rof_any (dv b) (Nat.lt_trans HDV.out (by decide)) _).mono ?_; rintro e wk3 ⟨rfl, hk3⟩; have hH3 : Below wr.heap.size wr wk3 := rstep hk3 (by assumption))
          | (go_simp; go_at_call 16; refine (rmul_any (numD (s.data.toList.drop 2) (i - 2)) 16 _).mono ?_; rintro e wk2 ⟨rfl, hk2⟩; have hH2 : Below wr.heap.size wr wk2 := rstep hk2 (by assumption))
          | (go_simp; go_at_call 12; refine (radd_any (numD (s.data.toList.drop 2) (i - 2) * 16) (dv b) _).mono ?_; rw [hsum.out]; rintro e wk4 ⟨rfl, hk4⟩; have hH4 : Below wr.heap.size wr wk4 := rstep hk4 (by assumption)))
        all_goals
          go_wp2
          have hA4 := blk_set4 (HA.out.keep hH4) (lb (numD (s.data.toList.drop 2) (i + 1 - 2)) 0) (lb (numD (s.data.toList.drop 2) (i + 1 - 2)) 1) (lb (numD (s.data.toList.drop 2) (i + 1 - 2)) 2) (lb (numD (s.data.toList.drop 2) (i + 1 - 2)) 3)
          have hR4 := blk_set4_far (HR.out.keep hH4) (g := w.heap.size + 1) (by omega) (lb (numD (s.data.toList.drop 2) (i + 1 - 2)) 0) (lb (numD (s.data.toList.drop 2) (i + 1 - 2)) 1) (lb (numD (s.data.toList.drop 2) (i + 1 - 2)) 2) (lb (numD (s.data.toList.drop 2) (i + 1 - 2)) 3)
          have hB4 := below_set4 (bstep HB.out hH4) (g := w.heap.size + 1) (by omega) (lb (numD (s.data.toList.drop 2) (i + 1 - 2)) 0) (lb (numD (s.data.toList.drop 2) (i + 1 - 2)) 1) (lb (numD (s.data.toList.drop 2) (i + 1 - 2)) 2) (lb (numD (s.data.toList.drop 2) (i + 1 - 2)) 3)
          exact ⟨⟨i + 1, by omega, by omega, by go_num, hnext, hA4, hR4, hB4⟩, by simp [intOf]; omega⟩
      · exact absurd (by have := HALL.out i hi2 hlt; rwa [hg.out] at this) hdv
    · obtain rfl : i = s.size := by omega
      have ht := HT.out
      have h0 : Below wr.heap.size wr wr := Below.refl _ _
      have r0 : ∀ w', Below wr.heap.size wr w' → w'.cell? ⟨w.heap.size, 0, none⟩ = some (.int .u64 0) := fun w' h => (h.cell (p := ⟨w.heap.size, 0, none⟩) hr.lt).trans ((cell_of_row wr _ 0 _ _ _ hr).trans (by rw [wc_get 0 0 (by omega), lb_zero]))
      have f0 : ∀ w', Below wr.heap.size wr w' → w'.frozen? ⟨w.heap.size, 0, none⟩ = false := fun w' h => frozen_of_row w' _ 0 _ _ (hr.keep h)
      have c0 : ∀ w', Below wr.heap.size wr w' → w'.cell? ⟨w.heap.size + 1, 0, none⟩ = some (.int .u64 (lb (numD (s.data.toList.drop 2) (s.size - 2)) 0)) := fun w' h => (h.cell (p := ⟨w.heap.size + 1, 0, none⟩) ha.lt).trans ((cell_of_row wr _ 0 _ _ _ ha).trans (wc_get _ 0 (by omega)))
      have r1 : ∀ w', Below wr.heap.size wr w' → w'.cell? ⟨w.heap.size, 1, none⟩ = some (.int .u64 0) := fun w' h => (h.cell (p := ⟨w.heap.size, 1, none⟩) hr.lt).trans ((cell_of_row wr _ 1 _ _ _ hr).trans (by rw [wc_get 0 1 (by omega), lb_zero]))
      have f1 : ∀ w', Below wr.heap.size wr w' → w'.frozen? ⟨w.heap.size, 1, none⟩ = false := fun w' h => frozen_of_row w' _ 1 _ _ (hr.keep h)
      have c1 : ∀ w', Below wr.heap.size wr w' → w'.cell? ⟨w.heap.size + 1, 1, none⟩ = some (.int .u64 (lb (numD (s.data.toList.drop 2) (s.size - 2)) 1)) := fun w' h => (h.cell (p := ⟨w.heap.size + 1, 1, none⟩) ha.lt).trans ((cell_of_row wr _ 1 _ _ _ ha).trans (wc_get _ 1 (by omega)))
      have r2 : ∀ w', Below wr.heap.size wr w' → w'.cell? ⟨w.heap.size, 2, none⟩ = some (.int .u64 0) := fun w' h => (h.cell (p := ⟨w.heap.size, 2, none⟩) hr.lt).trans ((cell_of_row wr _ 2 _ _ _ hr).trans (by rw [wc_get 0 2 (by omega), lb_zero]))
      have f2 : ∀ w', Below wr.heap.size wr w' → w'.frozen? ⟨w.heap.size, 2, none⟩ = false := fun w' h => frozen_of_row w' _ 2 _ _ (hr.keep h)
      have c2 : ∀ w', Below wr.heap.size wr w' → w'.cell? ⟨w.heap.size + 1, 2, none⟩ = some (.int .u64 (lb (numD (s.data.toList.drop 2) (s.size - 2)) 2)) := fun w' h => (h.cell (p := ⟨w.heap.size + 1, 2, none⟩) ha.lt).trans ((cell_of_row wr _ 2 _ _ _ ha).trans (wc_get _ 2 (by omega)))
      have r3 : ∀ w', Below wr.heap.size wr w' → w'.cell? ⟨w.heap.size, 3, none⟩ = some (.int .u64 0) := fun w' h => (h.cell (p := ⟨w.heap.size, 3, none⟩) hr.lt).trans ((cell_of_row wr _ 3 _ _ _ hr).trans (by rw [wc_get 0 3 (by omega), lb_zero]))
      have f3 : ∀ w', Below wr.heap.size wr w' → w'.frozen? ⟨w.heap.size, 3, none⟩ = false := fun w' h => frozen_of_row w' _ 3 _ _ (hr.keep h)
      have c3 : ∀ w', Below wr.heap.size wr w' → w'.cell? ⟨w.heap.size + 1, 3, none⟩ = some (.int .u64 (lb (numD (s.data.toList.drop 2) (s.size - 2)) 3)) := fun w' h => (h.cell (p := ⟨w.heap.size + 1, 3, none⟩) ha.lt).trans ((cell_of_row wr _ 3 _ _ _ ha).trans (wc_get _ 3 (by omega)))
      have HA := Lib.hid ha
      have HR := Lib.hid hr
      clear ha hr
      go_wp2_with (first | (go_at_call 25; refine (rtext_any (numD (s.data.toList.drop 2) (s.size - 2)) _).mono ?_; rintro e wk1 ⟨rfl, hk1⟩) | fail)
      exact bodyPost_ret (v := .tuple #[.agg #[.int .u64 0, .int .u64 0, .int .u64 0, .int .u64 0], .int .i64 110]) (by simp [results, Tryd.results30, go_sem, r0 _ hk1, r1 _ hk1, r2 _ hk1, r3 _ hk1]) rfl ⟨rfl, below_set4 (bstep HB.out hk1) (g := w.heap.size) (Nat.le_refl _) 0 0 0 0⟩

set_option maxRecDepth 100000 in
set_option maxHeartbeats 4000000 in
theorem rparse_ok (s : ByteArray) (h3 : 3 ≤ s.size) (h66 : s.size ≤ 66) (hp : ((s.extract 0 2).toList == [48, 120]) = true) (hall : ∀ j, 2 ≤ j → j < s.size → dv (s.data.toList.getD j 0) < 16)
    (ht : (txtL (numD (s.data.toList.drop 2) (s.size - 2)) == s.toList) = true) (w : World) :
    Calls Tryd.prog 30 #[.string s] w fun e w' => e = .returned (.tuple #[W (numD (s.data.toList.drop 2) (s.size - 2)), .int .i64 0]) ∧ Below w.heap.size w w' := by
  have h' : (3 : Int) ≤ (s.size : Int) := by omega
  have h2' : (2 : Int) ≤ (s.size : Int) := by omega
  have h66' : (s.size : Int) ≤ 66 := by omega
  have HALL := Lib.hid hall
  have HT := Lib.hid ht
  clear hall ht
  go_enter Tryd.func30, Tryd.ntmps30
  go_wp2_with fail
  go_loopw [5] (fun iv wr => ∃ i : Nat, 2 ≤ i ∧ i ≤ s.size ∧ iv = .int .i64 i ∧ Hid (∀ j, 2 ≤ j → j < i → dv (s.data.toList.getD j 0) < 16) ∧ Blk wr (w.heap.size + 1) 24 (Wc (numD (s.data.toList.drop 2) (i - 2))) ∧ Blk wr w.heap.size 24 (Wc 0) ∧ Below w.heap.size w wr) (fun iv _ => s.size - (intOf iv).toNat)
  case atStart =>
    have ha := Blk.newS w (.cells (Wc 0) 24) 24 (Wc 0)
    have hr := (Blk.new w 24 (Wc 0)).alloc (.cells (Wc 0) 24)
    simp only [Wc, lb_zero] at ha hr
    refine ⟨2, by omega, by omega, rfl, fun j h1 h2 => by omega, ?_, ?_, balloc (balloc (Below.refl _ _) _) _⟩
    · simp only [Wc, Nat.sub_self, numD, lb_zero]; exact ha
    · simp only [Wc, lb_zero]; exact hr
  case round =>
    obtain ⟨i, hi2, hi, rfl, hd, ha, hr, hB⟩ := hrel
    have HB := Lib.hid hB
    clear hB
    by_cases hlt : i < s.size
    · obtain ⟨b, hb⟩ : ∃ b, s[i]'hlt = b := ⟨_, rfl⟩
      have hg : Hid (s.data.toList.getD i 0 = b) := by
        show _ = _
        rw [← hb]; simp [List.getD, List.getElem?_eq_getElem (show i < s.data.toList.length by simpa using hlt)]; rfl
      have hg2 : Hid ((s.data.toList.drop 2).getD (i - 2) 0 = b) := by
        show _ = _
        rw [← hg.out]; simp [List.getD]; congr 2; omega
      have hlt' : (i : Int) < (s.size : Int) := by omega
      by_cases hdv : dv b < 16
      · have hnext : Hid (∀ j, 2 ≤ j → j < i + 1 → dv (s.data.toList.getD j 0) < 16) := fun j h1 h2 => by
          rcases Nat.lt_succ_iff_lt_or_eq.1 h2 with h | h
          · exact hd.out j h1 h
          · subst h; rw [hg.out]; exact hdv
        have hsum : Hid (numD (s.data.toList.drop 2) (i - 2) * 16 + dv b = numD (s.data.toList.drop 2) (i + 1 - 2)) := by
          show _ = _
          rw [show i + 1 - 2 = (i - 2) + 1 by omega]
          show _ = numD _ (i - 2) * 16 + dv ((s.data.toList.drop 2).getD (i - 2) 0)
          rw [hg2.out]
        have hdi : ¬ ((dv b : Nat) : Int) < 0 := by omega
        have hcv : IntKind.u64.wrap ((dv b : Nat) : Int) = ((dv b : Nat) : Int) := IntWalk.u64_in _ (by omega)
        have h0 : Below wr.heap.size wr wr.drew := (Below.refl _ _).drew
        have hE : Hid ((if dv b < 16 then (dv b : Int) else -1) = ((dv b : Nat) : Int)) := if_pos hdv
        have c0 : ∀ w', Below wr.heap.size wr w' → w'.cell? ⟨w.heap.size + 1, 0, none⟩ = some (.int .u64 (lb (numD (s.data.toList.drop 2) (i - 2)) 0)) := fun w' h => (h.cell (p := ⟨w.heap.size + 1, 0, none⟩) ha.lt).trans ((cell_of_row wr _ 0 _ _ _ ha).trans (wc_get _ 0 (by omega)))
        have f0 : ∀ w', Below wr.heap.size wr w' → w'.frozen? ⟨w.heap.size + 1, 0, none⟩ = false := fun w' h => frozen_of_row w' _ 0 _ _ (ha.keep h)
        have c1 : ∀ w', Below wr.heap.size wr w' → w'.cell? ⟨w.heap.size + 1, 1, none⟩ = some (.int .u64 (lb (numD (s.data.toList.drop 2) (i - 2)) 1)) := fun w' h => (h.cell (p := ⟨w.heap.size + 1, 1, none⟩) ha.lt).trans ((cell_of_row wr _ 1 _ _ _ ha).trans (wc_get _ 1 (by omega)))
        have f1 : ∀ w', Below wr.heap.size wr w' → w'.frozen? ⟨w.heap.size + 1, 1, none⟩ = false := fun w' h => frozen_of_row w' _ 1 _ _ (ha.keep h)
        have c2 : ∀ w', Below wr.heap.size wr w' → w'.cell? ⟨w.heap.size + 1, 2, none⟩ = some (.int .u64 (lb (numD (s.data.toList.drop 2) (i - 2)) 2)) := fun w' h => (h.cell (p := ⟨w.heap.size + 1, 2, none⟩) ha.lt).trans ((cell_of_row wr _ 2 _ _ _ ha).trans (wc_get _ 2 (by omega)))
        have f2 : ∀ w', Below wr.heap.size wr w' → w'.frozen? ⟨w.heap.size + 1, 2, none⟩ = false := fun w' h => frozen_of_row w' _ 2 _ _ (ha.keep h)
        have c3 : ∀ w', Below wr.heap.size wr w' → w'.cell? ⟨w.heap.size + 1, 3, none⟩ = some (.int .u64 (lb (numD (s.data.toList.drop 2) (i - 2)) 3)) := fun w' h => (h.cell (p := ⟨w.heap.size + 1, 3, none⟩) ha.lt).trans ((cell_of_row wr _ 3 _ _ _ ha).trans (wc_get _ 3 (by omega)))
        have f3 : ∀ w', Below wr.heap.size wr w' → w'.frozen? ⟨w.heap.size + 1, 3, none⟩ = false := fun w' h => frozen_of_row w' _ 3 _ _ (ha.keep h)
        have HA := Lib.hid ha
        have HR := Lib.hid hr
        have HDV := Lib.hid hdv
        clear ha hr hdv
        go_wp2_with (first | (go_at_call 45; refine (rdigit_any b _).mono ?_; rw [hE.out]; rintro e _ ⟨rfl, rfl⟩) | fail)
        go_region_law (first
          | (go_simp; go_at_call 20; refine (rof_any 16 (by decide) _).mono ?_; rintro e wk1 ⟨rfl, hk1⟩; have hH1 : Below wr.heap.size wr wk1 := rstep hk1 (by assumption))
          | (go_simp; go_at_call 20; refine (rof_any (dv b) (Nat.lt_trans HDV.out (by decide)) _).mono ?_; rintro e wk3 ⟨rfl, hk3⟩; have hH3 : Below wr.heap.size wr wk3 := rstep hk3 (by assumption))
          | (go_simp; go_at_call 16; refine (rmul_any (numD (s.data.toList.drop 2) (i - 2)) 16 _).mono ?_; rintro e wk2 ⟨rfl, hk2⟩; have hH2 : Below wr.heap.size wr wk2 := rstep hk2 (by assumption))
          | (go_simp; go_at_call 12; refine (radd_any (numD (s.data.toList.drop 2) (i - 2) * 16) (dv b) _).mono ?_; rw [hsum.out]; rintro e wk4 ⟨rfl, hk4⟩; have hH4 : Below wr.heap.size wr wk4 := rstep hk4 (by assumption)))
        all_goals
          go_wp2
          have hA4 := blk_set4 (HA.out.keep hH4) (lb (numD (s.data.toList.drop 2) (i + 1 - 2)) 0) (lb (numD (s.data.toList.drop 2) (i + 1 - 2)) 1) (lb (numD (s.data.toList.drop 2) (i + 1 - 2)) 2) (lb (numD (s.data.toList.drop 2) (i + 1 - 2)) 3)
          have hR4 := blk_set4_far (HR.out.keep hH4) (g := w.heap.size + 1) (by omega) (lb (numD (s.data.toList.drop 2) (i + 1 - 2)) 0) (lb (numD (s.data.toList.drop 2) (i + 1 - 2)) 1) (lb (numD (s.data.toList.drop 2) (i + 1 - 2)) 2) (lb (numD (s.data.toList.drop 2) (i + 1 - 2)) 3)
          have hB4 := below_set4 (bstep HB.out hH4) (g := w.heap.size + 1) (by omega) (lb (numD (s.data.toList.drop 2) (i + 1 - 2)) 0) (lb (numD (s.data.toList.drop 2) (i + 1 - 2)) 1) (lb (numD (s.data.toList.drop 2) (i + 1 - 2)) 2) (lb (numD (s.data.toList.drop 2) (i + 1 - 2)) 3)
          exact ⟨⟨i + 1, by omega, by omega, by go_num, hnext, hA4, hR4, hB4⟩, by simp [intOf]; omega⟩
      · exact absurd (by have := HALL.out i hi2 hlt; rwa [hg.out] at this) hdv
    · obtain rfl : i = s.size := by omega
      have ht := HT.out
      have h0 : Below wr.heap.size wr wr := Below.refl _ _
      have r0 : ∀ w', Below wr.heap.size wr w' → w'.cell? ⟨w.heap.size, 0, none⟩ = some (.int .u64 0) := fun w' h => (h.cell (p := ⟨w.heap.size, 0, none⟩) hr.lt).trans ((cell_of_row wr _ 0 _ _ _ hr).trans (by rw [wc_get 0 0 (by omega), lb_zero]))
      have f0 : ∀ w', Below wr.heap.size wr w' → w'.frozen? ⟨w.heap.size, 0, none⟩ = false := fun w' h => frozen_of_row w' _ 0 _ _ (hr.keep h)
      have c0 : ∀ w', Below wr.heap.size wr w' → w'.cell? ⟨w.heap.size + 1, 0, none⟩ = some (.int .u64 (lb (numD (s.data.toList.drop 2) (s.size - 2)) 0)) := fun w' h => (h.cell (p := ⟨w.heap.size + 1, 0, none⟩) ha.lt).trans ((cell_of_row wr _ 0 _ _ _ ha).trans (wc_get _ 0 (by omega)))
      have r1 : ∀ w', Below wr.heap.size wr w' → w'.cell? ⟨w.heap.size, 1, none⟩ = some (.int .u64 0) := fun w' h => (h.cell (p := ⟨w.heap.size, 1, none⟩) hr.lt).trans ((cell_of_row wr _ 1 _ _ _ hr).trans (by rw [wc_get 0 1 (by omega), lb_zero]))
      have f1 : ∀ w', Below wr.heap.size wr w' → w'.frozen? ⟨w.heap.size, 1, none⟩ = false := fun w' h => frozen_of_row w' _ 1 _ _ (hr.keep h)
      have c1 : ∀ w', Below wr.heap.size wr w' → w'.cell? ⟨w.heap.size + 1, 1, none⟩ = some (.int .u64 (lb (numD (s.data.toList.drop 2) (s.size - 2)) 1)) := fun w' h => (h.cell (p := ⟨w.heap.size + 1, 1, none⟩) ha.lt).trans ((cell_of_row wr _ 1 _ _ _ ha).trans (wc_get _ 1 (by omega)))
      have r2 : ∀ w', Below wr.heap.size wr w' → w'.cell? ⟨w.heap.size, 2, none⟩ = some (.int .u64 0) := fun w' h => (h.cell (p := ⟨w.heap.size, 2, none⟩) hr.lt).trans ((cell_of_row wr _ 2 _ _ _ hr).trans (by rw [wc_get 0 2 (by omega), lb_zero]))
      have f2 : ∀ w', Below wr.heap.size wr w' → w'.frozen? ⟨w.heap.size, 2, none⟩ = false := fun w' h => frozen_of_row w' _ 2 _ _ (hr.keep h)
      have c2 : ∀ w', Below wr.heap.size wr w' → w'.cell? ⟨w.heap.size + 1, 2, none⟩ = some (.int .u64 (lb (numD (s.data.toList.drop 2) (s.size - 2)) 2)) := fun w' h => (h.cell (p := ⟨w.heap.size + 1, 2, none⟩) ha.lt).trans ((cell_of_row wr _ 2 _ _ _ ha).trans (wc_get _ 2 (by omega)))
      have r3 : ∀ w', Below wr.heap.size wr w' → w'.cell? ⟨w.heap.size, 3, none⟩ = some (.int .u64 0) := fun w' h => (h.cell (p := ⟨w.heap.size, 3, none⟩) hr.lt).trans ((cell_of_row wr _ 3 _ _ _ hr).trans (by rw [wc_get 0 3 (by omega), lb_zero]))
      have f3 : ∀ w', Below wr.heap.size wr w' → w'.frozen? ⟨w.heap.size, 3, none⟩ = false := fun w' h => frozen_of_row w' _ 3 _ _ (hr.keep h)
      have c3 : ∀ w', Below wr.heap.size wr w' → w'.cell? ⟨w.heap.size + 1, 3, none⟩ = some (.int .u64 (lb (numD (s.data.toList.drop 2) (s.size - 2)) 3)) := fun w' h => (h.cell (p := ⟨w.heap.size + 1, 3, none⟩) ha.lt).trans ((cell_of_row wr _ 3 _ _ _ ha).trans (wc_get _ 3 (by omega)))
      have HA := Lib.hid ha
      have HR := Lib.hid hr
      clear ha hr
      go_wp2_with (first | (go_at_call 25; refine (rtext_any (numD (s.data.toList.drop 2) (s.size - 2)) _).mono ?_; rintro e wk1 ⟨rfl, hk1⟩) | fail)
      exact bodyPost_ret (v := .tuple #[W (numD (s.data.toList.drop 2) (s.size - 2)), .int .i64 0]) (by simp [results, Tryd.results30, go_sem, r0 _ hk1, r1 _ hk1, r2 _ hk1, r3 _ hk1]) rfl ⟨rfl, below_set4 (bstep HB.out hk1) (g := w.heap.size) (Nat.le_refl _) _ _ _ _⟩

end Go.Proofs.YtimmcljpfpimbaaDoor
