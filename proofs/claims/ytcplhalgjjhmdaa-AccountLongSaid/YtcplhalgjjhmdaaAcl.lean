/- account: works. -/
import Derived.Test.YtcplhalgjjhmdaaAck
import Derived.Test.YtcplhalgjjhmdaaStf
import Derived.Test.YtcplhalgjjhmdaaWs
namespace Go.Proofs.Ytcplhalgjjhmdaa
open Go.RowKit Go.Shelf Go.ChangeMaps Go.MapKept

theorem glk_put_same (m : List Nat → Option En) (a : List Nat) (e : En) : glk zE (gput m a e) a = e := by
  unfold glk gput
  rw [gupd_same]
  split
  · rename_i h; exact h.symm
  · rfl
theorem glk_put_other (m : List Nat → Option En) {a c : List Nat} (e : En) (h : c ≠ a) : glk zE (gput m a e) c = glk zE m c := by
  unfold glk gput
  rw [gupd_other _ _ h]
theorem glk_del (m : List Nat → Option En) (a : List Nat) : glk zE (gupd m a none) a = zE := by
  unfold glk
  rw [gupd_same]; rfl
theorem o12 : aofL 2 ≠ aofL 1 := by decide
theorem o13 : aofL 3 ≠ aofL 1 := by decide
theorem o31 : aofL 1 ≠ aofL 3 := by decide
theorem ok51 : okP (5, 1) := ⟨by decide, by decide⟩
theorem ok04 : okP (0, 4) := ⟨by decide, by decide⟩
theorem ac51 : acC (5, 1) 2 (.slice none 0 0) = #[.int .u64 (lb 5 0), .int .u64 (lb 5 1), .int .u64 (lb 5 2), .int .u64 (lb 5 3), .int .u64 1, .int .u64 2, .slice none 0 0] := rfl
theorem ac04 : acC (0, 4) 0 (.slice none 0 0) = #[.int .u64 0, .int .u64 0, .int .u64 0, .int .u64 0, .int .u64 4, .int .u64 0, .slice none 0 0] := by simp only [acC, lb0]; rfl
theorem ac00 : acC (0, 0) 0 (.slice none 0 0) = #[.int .u64 0, .int .u64 0, .int .u64 0, .int .u64 0, .int .u64 0, .int .u64 0, .slice none 0 0] := by simp only [acC, lb0]; rfl
theorem of5 (Z : World) : Calls Try.prog 16 #[.int .u64 5] Z fun e w' => e = .returned (W 5) ∧ Below Z.heap.size Z w' := by exact rof_any 5 (by decide) Z
theorem of7 (Z : World) : Calls Try.prog 16 #[.int .u64 7] Z fun e w' => e = .returned (W 7) ∧ Below Z.heap.size Z w' := by exact rof_any 7 (by decide) Z
theorem of9 (Z : World) : Calls Try.prog 16 #[.int .u64 9] Z fun e w' => e = .returned (W 9) ∧ Below Z.heap.size Z w' := by exact rof_any 9 (by decide) Z
theorem ao1 (Z : World) : Calls Try.prog 8 #[.int .u8 1] Z fun e w' => e = .returned (.agg (adC (aofL 1))) ∧ Below Z.heap.size Z w' := by exact aof_any 1 (by decide) Z
theorem ao2 (Z : World) : Calls Try.prog 8 #[.int .u8 2] Z fun e w' => e = .returned (.agg (adC (aofL 2))) ∧ Below Z.heap.size Z w' := by exact aof_any 2 (by decide) Z
theorem ao3 (Z : World) : Calls Try.prog 8 #[.int .u8 3] Z fun e w' => e = .returned (.agg (adC (aofL 3))) ∧ Below Z.heap.size Z w' := by exact aof_any 3 (by decide) Z
theorem ok90 : okP (9, 0) := ⟨by decide, by decide⟩
theorem bto_nil (B : Nat) (X : World) (x : Option Addr) (k : Nat) : Bto B X (.slice x 0 k) [] := ⟨by simp, x, k, rfl, Nat.zero_le _, by simp, fun h => (h rfl).elim⟩
/-- A value is put to a storage that was just made. -/
theorem sput79 (g : Nat) (w X : World) {Z : World} (hs : SlN w X g) (hZ : Below X.heap.size X Z) : Calls Try.prog 19 #[.pointer (some ⟨g, 0, none⟩), W 7, .agg #[.int .u64 (lb 9 0), .int .u64 (lb 9 1), .int .u64 (lb 9 2), .int .u64 (lb 9 3), .int .u64 0]] Z fun e w' => e = .returned (.int .i64 0) ∧ Chg (fun k => w.heap.size ≤ k) Z w' := by
  obtain ⟨bv, bw, h, h1, h2, h3⟩ := hs
  refine (show Calls _ _ _ Z _ from sput_any g bv bw 0 (fun _ => none) (fun _ => none) 7 (by decide) (9, 0) ok90 (by decide) (by decide) Z (h.keep hZ)).mono ?_
  rintro e w' ⟨rfl, _, hc⟩
  exact ⟨rfl, hc.mono (fun k _ h => h.elim (fun e => e ▸ h1) (fun e => e ▸ h2))⟩
theorem AcM.far {X Z Y Y0 : World} {p b n : Nat} {m m0 : List Nat → Option En} (h : AcM X p b m) (hn : Y0.heap.size ≤ n) (h0 : AcM Y0 p b m0) (hZ : Below X.heap.size X Z) (hc : Chg (fun k => n ≤ k) Z Y) : AcM Y p b m := by
  have hp := h0.1.lt
  have hb := h0.2.lt
  exact ⟨(h.1.keep hZ).chg hc (by omega), (h.2.keep hZ).chg hc (by omega)⟩
theorem sget7 (g : Nat) (w X : World) {Z : World} (hs : SlN w X g) (hZ : Below X.heap.size X Z) : Calls Try.prog 21 #[.pointer (some ⟨g, 0, none⟩), W 7] Z fun e w' => e = .returned (.agg #[.int .u64 0, .int .u64 0, .int .u64 0, .int .u64 0, .int .u64 0]) ∧ Below Z.heap.size Z w' := by
  obtain ⟨bv, bw, h, _⟩ := hs
  have h := get_any g bv bw 0 (fun _ => none) (fun _ => none) 7 (by decide) Z (h.keep hZ)
  rw [show lk2 (fun _ => none) (fun _ => none) 7 = (0, 0) from rfl, vP0] at h
  exact h
theorem aget0 {p b : Nat} {m : List Nat → Option En} {Z : World} {g : Nat} (h : AcM Z p b (gput m (aofL 1) ((0, 0), 0, [], some g))) : Calls Try.prog 10 #[.pointer (some ⟨p, 0, none⟩), .agg (adC (aofL 1))] Z fun r w' => ∃ x k, r = .returned (.agg #[.int .u64 0, .int .u64 0, .int .u64 0, .int .u64 0, .int .u64 0, .int .u64 0, .slice x 0 k]) ∧ Below Z.heap.size Z w' := by
  refine (aget_any p b _ (aofL 1) (aofL_ad (by decide)) Z h).mono ?_
  rintro r w' ⟨c, rfl, hB, _, hb⟩
  rw [glk_put_same] at hB ⊢
  obtain ⟨_, x, k, hc, _⟩ := hB
  subst hc
  exact ⟨x, k, by simp only [acC, lb0]; rfl, hb⟩
theorem same51 (x : Option Addr) (k : Nat) (Z : World) : Calls Try.prog 15 #[.agg #[.int .u64 (lb 5 0), .int .u64 (lb 5 1), .int .u64 (lb 5 2), .int .u64 (lb 5 3), .int .u64 1, .int .u64 2, .slice none 0 0], .agg #[.int .u64 (lb 5 0), .int .u64 (lb 5 1), .int .u64 (lb 5 2), .int .u64 (lb 5 3), .int .u64 1, .int .u64 2, .slice x 0 k]] Z fun r w' => r = .returned (.bool true) ∧ Below Z.heap.size Z w' := by
  exact asame_any (5, 1) (5, 1) ok51 ok51 2 2 (.slice none 0 0) (.slice x 0 k) [] [] 0 0 Z (bto_nil _ _ _ _) (bto_nil _ _ _ _) (by decide) (by decide)
theorem same00 (x : Option Addr) (k : Nat) (Z : World) : Calls Try.prog 15 #[.agg #[.int .u64 0, .int .u64 0, .int .u64 0, .int .u64 0, .int .u64 0, .int .u64 0, .slice x 0 k], .agg #[.int .u64 0, .int .u64 0, .int .u64 0, .int .u64 0, .int .u64 0, .int .u64 0, .slice none 0 0]] Z fun r w' => r = .returned (.bool true) ∧ Below Z.heap.size Z w' := by
  have h := asame_any (0, 0) (0, 0) okP0 okP0 0 0 (.slice x 0 k) (.slice none 0 0) [] [] 0 0 Z (bto_nil _ _ _ _) (bto_nil _ _ _ _) (by decide) (by decide)
  simp only [acC, lb0] at h
  exact h
/-- The entries that works lays. -/
abbrev e51 : En := ((5, 1), 2, [], none)
abbrev e04 : En := ((0, 4), 0, [], none)
set_option maxRecDepth 100000 in
set_option maxHeartbeats 8000000 in
theorem aworks_any (w : World) : Calls Try.prog 5 #[] w fun e w' => e = .returned (.bool true) ∧ Below w.heap.size w w' := by
  go_enter Try.func5, Try.ntmps5
  go_upto_region 2 with (first | (go_at_call 6; refine (anew_any w).mono ?_; rintro e z1 ⟨p, b, rfl, hp, hm, hp1, hb1, hpb, hz1⟩) | fail)
  obtain ⟨m0, hm0⟩ : ∃ m : List Nat → Option En, (fun _ => none) = m := ⟨_, rfl⟩
  rw [hm0] at hm
  have g0 : ∀ a, glk zE m0 a = zE := fun a => by rw [← hm0]; rfl
  have HS1 := Lib.hid (And.intro (show AcM z1 p b m0 from ⟨hp, hm⟩) (And.intro hz1 (And.intro hp1 hb1)))
  have HG0 := Lib.hid g0
  clear hp hm hp1 hb1 hpb hz1 g0 hm0
  go_upto_region 3 with (first | (go_at_call 16; refine (of5 _).mono ?_; rintro e z2 ⟨rfl, hz2⟩) | fail)
  obtain ⟨X2, hX2⟩ : ∃ X, z2.alloc (.cells #[.int .u64 (lb 5 0), .int .u64 (lb 5 1), .int .u64 (lb 5 2), .int .u64 (lb 5 3), .int .u64 1, .int .u64 2, .slice none 0 0] 38) = X := ⟨_, rfl⟩
  obtain ⟨gx, hgx⟩ : ∃ g, z2.heap.size = g := ⟨_, rfl⟩
  have hb2 : Below z2.heap.size z2 X2 := by rw [← hX2]; exact balloc (Below.refl _ _) _
  have kx : Blk X2 gx 38 #[.int .u64 (lb 5 0), .int .u64 (lb 5 1), .int .u64 (lb 5 2), .int .u64 (lb 5 3), .int .u64 1, .int .u64 2, .slice none 0 0] := by rw [← hX2, ← hgx]; exact Blk.new _ _ _
  have ac2 := (HS1.out.1.keep hz2).keep hb2
  have hw2 : Below w.heap.size w X2 := HS1.out.2.1.trans ((bstep hz2 hb2).mono HS1.out.2.1.size)
  have hnx : gx ≠ b := by have := (HS1.out.1.keep hz2).2.lt; omega
  rw [hX2, hgx]
  have HS2 := Lib.hid (And.intro ac2 (And.intro kx (And.intro hw2 hnx)))
  have x0 : ∀ Z, Chg (fun k => k = b) X2 Z → Z.cell? ⟨gx, 0, none⟩ = some (.int .u64 (lb 5 0)) := fun Z h => cell_of_row _ _ 0 _ _ _ (kx.chg h hnx)
  have x1 : ∀ Z, Chg (fun k => k = b) X2 Z → Z.cell? ⟨gx, 1, none⟩ = some (.int .u64 (lb 5 1)) := fun Z h => cell_of_row _ _ 1 _ _ _ (kx.chg h hnx)
  have x2 : ∀ Z, Chg (fun k => k = b) X2 Z → Z.cell? ⟨gx, 2, none⟩ = some (.int .u64 (lb 5 2)) := fun Z h => cell_of_row _ _ 2 _ _ _ (kx.chg h hnx)
  have x3 : ∀ Z, Chg (fun k => k = b) X2 Z → Z.cell? ⟨gx, 3, none⟩ = some (.int .u64 (lb 5 3)) := fun Z h => cell_of_row _ _ 3 _ _ _ (kx.chg h hnx)
  have x4 : ∀ Z, Chg (fun k => k = b) X2 Z → Z.cell? ⟨gx, 4, none⟩ = some (.int .u64 1) := fun Z h => cell_of_row _ _ 4 _ _ _ (kx.chg h hnx)
  have x5 : ∀ Z, Chg (fun k => k = b) X2 Z → Z.cell? ⟨gx, 5, none⟩ = some (.int .u64 2) := fun Z h => cell_of_row _ _ 5 _ _ _ (kx.chg h hnx)
  have x6 : ∀ Z, Chg (fun k => k = b) X2 Z → Z.cell? ⟨gx, 6, none⟩ = some (.slice none 0 0) := fun Z h => cell_of_row _ _ 6 _ _ _ (kx.chg h hnx)
  have h0 : Below X2.heap.size X2 X2.drew := below_drew' (Below.refl _ _)
  have h0c : Chg (fun k => k = b) X2 X2.drew := Chg.new h0
  have HP := Lib.hid (fun Z (hZ : Below X2.heap.size X2 Z) => (by have h := aput_any p b m0 (aofL 1) (aofL_ad (by decide)) (5, 1) ok51 2 (by decide) (.slice none 0 0) [] 0 Z (HS2.out.1.keep hZ) (Bto.empty _ _) (by decide); rw [HG0.out] at h; exact h : Calls Try.prog 7 #[.pointer (some ⟨p, 0, none⟩), .agg (adC (aofL 1)), .agg #[.int .u64 (lb 5 0), .int .u64 (lb 5 1), .int .u64 (lb 5 2), .int .u64 (lb 5 3), .int .u64 1, .int .u64 2, .slice none 0 0]] Z fun e w' => e = .returned (.int .i64 0) ∧ AcM w' p b (gput m0 (aofL 1) e51) ∧ Chg (fun k => k = b) Z w'))
  clear hX2 hgx hb2 kx ac2 hw2 hnx hz2
  go_region_held3 (fun w' => Chg (fun k => k = b) X2 w') (first | with_reducible assumption) (first
    | (go_at_call 8; refine (ao1 _).mono ?_; rintro e z3 ⟨rfl, hz3⟩; have h3 : Below X2.heap.size X2 z3 := rstep hz3 h0; have h3c : Chg (fun k => k = b) X2 z3 := Chg.new h3; clear hz3)
    | (go_at_call 7; refine (HP.out _ h3).mono ?_; rintro e z4 ⟨rfl, ha4, hc4⟩; have h4c : Chg (fun k => k = b) X2 z4 := h3c.trans hc4 (fun _ _ h => h); clear hc4)
    | (go_at_call 9; refine (anum_any _ _).mono ?_; rintro e zn ⟨rfl, rfl⟩)
    | fail)
  all_goals
    obtain ⟨m1, hm1⟩ : ∃ m, gput m0 (aofL 1) e51 = m := ⟨_, rfl⟩
    have g11 : glk zE m1 (aofL 1) = e51 := by rw [← hm1]; exact glk_put_same _ _ _
    have g12 : glk zE m1 (aofL 2) = zE := by rw [← hm1, glk_put_other _ _ o12]; exact HG0.out _
    have g13 : glk zE m1 (aofL 3) = zE := by rw [← hm1, glk_put_other _ _ o13]; exact HG0.out _
    rw [hm1] at ha4
    have kx4 := HS2.out.2.1.chg h4c HS2.out.2.2.2
    have hw4 : Below w.heap.size w z4 := HS2.out.2.2.1.trans (h4c.below HS2.out.2.2.1.size (fun k hk e => by have := HS1.out.2.2; omega))
    have HS4 := Lib.hid (And.intro ha4 (And.intro kx4 hw4))
    have HG1 := Lib.hid (fun Z (hZ : Below z4.heap.size z4 Z) => (by have h := aget_any p b m1 (aofL 1) (aofL_ad (by decide)) Z (ha4.keep hZ); rw [g11] at h; exact h : Calls Try.prog 10 #[.pointer (some ⟨p, 0, none⟩), .agg (adC (aofL 1))] Z fun r w' => ∃ c, r = .returned (.agg #[.int .u64 (lb 5 0), .int .u64 (lb 5 1), .int .u64 (lb 5 2), .int .u64 (lb 5 3), .int .u64 1, .int .u64 2, c]) ∧ Bto w'.heap.size w' c [] ∧ FrS Z.heap.size c ∧ Below Z.heap.size Z w'))
    have HD1 := Lib.hid (fun Z (hZ : Below z4.heap.size z4 Z) => (by have h := adead_any p b m1 (aofL 1) (aofL_ad (by decide)) Z (ha4.keep hZ); rw [g11] at h; exact h : Calls Try.prog 17 #[.pointer (some ⟨p, 0, none⟩), .agg (adC (aofL 1))] Z fun r w' => r = .returned (.tuple #[.bool false, .bool false]) ∧ Below Z.heap.size Z w'))
    have HD2 := Lib.hid (fun Z (hZ : Below z4.heap.size z4 Z) => (by have h := adead_any p b m1 (aofL 2) (aofL_ad (by decide)) Z (ha4.keep hZ); rw [g12] at h; exact h : Calls Try.prog 17 #[.pointer (some ⟨p, 0, none⟩), .agg (adC (aofL 2))] Z fun r w' => r = .returned (.tuple #[.bool true, .bool false]) ∧ Below Z.heap.size Z w'))
    have HP3 := Lib.hid (fun Z (hZ : Below z4.heap.size z4 Z) => (by have h := aput_any p b m1 (aofL 3) (aofL_ad (by decide)) (0, 4) ok04 0 (by decide) (.slice none 0 0) [] 0 Z (ha4.keep hZ) (Bto.empty _ _) (by decide); rw [g13, ac04] at h; exact h : Calls Try.prog 7 #[.pointer (some ⟨p, 0, none⟩), .agg (adC (aofL 3)), .agg #[.int .u64 0, .int .u64 0, .int .u64 0, .int .u64 0, .int .u64 4, .int .u64 0, .slice none 0 0]] Z fun e w' => e = .returned (.int .i64 0) ∧ AcM w' p b (gput m1 (aofL 3) e04) ∧ Chg (fun k => k = b) Z w'))
    have HG := Lib.hid (And.intro g11 (And.intro g12 g13))
    clear ha4 kx4 hw4 h4c h3 h3c h0 h0c x0 x1 x2 x3 x4 x5 x6 HP hm1 g11 g12 g13
    go_upto_region 5 with (first
      | (go_at_call 8; refine (ao1 _).mono ?_; rintro e z5 ⟨rfl, h5⟩)
      | (go_at_call 10; refine (HG1.out _ h5).mono ?_; rintro e z6 ⟨c6, rfl, hB6, _, hz6⟩; have h6 : Below z4.heap.size z4 z6 := bstep h5 hz6; obtain ⟨cx, cn, hc6⟩ : ∃ x k, c6 = .slice x 0 k := (by obtain ⟨_, x, k, h, _⟩ := hB6; exact ⟨x, k, h⟩); subst hc6; clear hB6 hz6)
      | fail)
    obtain ⟨X6, hX6⟩ : ∃ X, z6.alloc (.cells #[.int .u64 (lb 5 0), .int .u64 (lb 5 1), .int .u64 (lb 5 2), .int .u64 (lb 5 3), .int .u64 1, .int .u64 2, .slice cx 0 cn] 38) = X := ⟨_, rfl⟩
    obtain ⟨gy, hgy⟩ : ∃ g, z6.heap.size = g := ⟨_, rfl⟩
    have hX46 : Below z4.heap.size z4 X6 := by rw [← hX6]; exact balloc h6 _
    have ky : Blk X6 gy 38 #[.int .u64 (lb 5 0), .int .u64 (lb 5 1), .int .u64 (lb 5 2), .int .u64 (lb 5 3), .int .u64 1, .int .u64 2, .slice cx 0 cn] := by rw [← hX6, ← hgy]; exact Blk.new _ _ _
    have hgb : gy ≠ b := by have := HS4.out.1.2.lt; have := h6.size; omega
    have H6 := Lib.hid (And.intro hX46 (And.intro ky hgb))
    rw [hX6, hgy]
    clear hX6 hgy ky hgb h5 h6
    go_upto_region 6 with (first
      | (go_at_call 8; refine (ao1 _).mono ?_; rintro e z7 ⟨rfl, h7⟩)
      | (go_at_call 17; refine (HD1.out _ (bstep hX46 h7)).mono ?_; rintro e z8 ⟨rfl, h8⟩; have h8b := bstep h7 h8)
      | fail)
    clear h7 h8
    go_upto_region 7 with (first
      | (go_at_call 8; refine (ao2 _).mono ?_; rintro e z9 ⟨rfl, h9⟩; have h9b := bstep h8b h9)
      | (go_at_call 17; refine (HD2.out _ (bstep hX46 h9b)).mono ?_; rintro e z10 ⟨rfl, h10⟩; have h10b := bstep h9b h10)
      | fail)
    clear h9 h9b h10
    go_upto_region 8 with (first
      | (go_at_call 8; refine (ao3 _).mono ?_; rintro e z11 ⟨rfl, h11⟩; have h11b := bstep h10b h11)
      | (go_at_call 7; refine (HP3.out _ (bstep hX46 h11b)).mono ?_; rintro e z12 ⟨rfl, ha12, hc12⟩)
      | (go_at_call 9; refine (anum_any _ _).mono ?_; rintro e zn ⟨rfl, rfl⟩)
      | fail)
    obtain ⟨m2, hm2⟩ : ∃ m, gput m1 (aofL 3) e04 = m := ⟨_, rfl⟩
    have g21 : glk zE m2 (aofL 1) = e51 := by rw [← hm2, glk_put_other _ _ o31]; exact HG.out.1
    have g23 : glk zE m2 (aofL 3) = e04 := by rw [← hm2]; exact glk_put_same _ _ _
    rw [hm2] at ha12
    have hz411 : Below z4.heap.size z4 z11 := bstep hX46 h11b
    have kx12 := (HS4.out.2.1.keep hz411).chg hc12 HS2.out.2.2.2
    have ky12 := (H6.out.2.1.keep h11b).chg hc12 H6.out.2.2
    have hw11 : Below w.heap.size w z11 := HS4.out.2.2.trans (hz411.mono HS4.out.2.2.size)
    have hw12 : Below w.heap.size w z12 := hw11.trans (hc12.below hw11.size (fun k hk e => by have := HS1.out.2.2; omega))
    have HS12 := Lib.hid (And.intro ha12 (And.intro kx12 (And.intro ky12 (And.intro hw12 g21))))
    have HD3 := Lib.hid (fun Z (hZ : Below z12.heap.size z12 Z) => (by have h := adead_any p b m2 (aofL 3) (aofL_ad (by decide)) Z (ha12.keep hZ); rw [g23] at h; exact h : Calls Try.prog 17 #[.pointer (some ⟨p, 0, none⟩), .agg (adC (aofL 3))] Z fun r w' => r = .returned (.tuple #[.bool true, .bool true]) ∧ Below Z.heap.size Z w'))
    have HSL := Lib.hid (fun Z (hZ : Below z12.heap.size z12 Z) => aslots_new p b m2 (aofL 1) (aofL_ad (by decide)) Z (ha12.keep hZ) (by rw [g21]))
    clear ha12 hc12 kx12 ky12 hw11 hw12 g21 g23 hm2 hz411 h11b h11 h10b h8b hX46 HP3 HD1 HD2 HG1
    go_upto_region 9 with (first
      | (go_at_call 8; refine (ao3 _).mono ?_; rintro e z13 ⟨rfl, h13⟩)
      | (go_at_call 17; refine (HD3.out _ h13).mono ?_; rintro e z14 ⟨rfl, h14⟩; have h14b := bstep h13 h14)
      | fail)
    clear h13 h14 HD3
    go_upto_region 10 with (first
      | (go_at_call 8; refine (ao1 _).mono ?_; rintro e z15 ⟨rfl, h15⟩)
      | (go_at_call 18; refine (HSL.out _ (bstep h14b h15)).mono ?_; rintro e z16 ⟨g, rfl, hs16, ha16, hc16⟩; have K15 := Lib.hid (And.intro (bstep h14b h15) (And.intro ha16 (And.intro hc16 hs16))); clear h15 hs16 ha16 hc16)
      | (go_at_call 16; refine (of7 _).mono ?_; rintro e z17 ⟨rfl, h17⟩)
      | (go_at_call 16; refine (of9 _).mono ?_; rintro e z18 ⟨rfl, h18⟩; have h18b := bstep h17 h18)
      | (go_at_call 19; refine (sput79 g _ _ K15.out.2.2.2 h18b).mono ?_; rintro e z19 ⟨rfl, hc19⟩; have ha19 := AcM.far K15.out.2.1 K15.out.1.size HS12.out.1 h18b hc19)
      | (go_at_call 9; refine (anum_any _ _).mono ?_; rintro e zn ⟨rfl, rfl⟩)
      | (go_at_call 20; refine (adrop_any p b _ (aofL 1) (aofL_ad (by decide)) _ (ha19.keep h15)).mono ?_; rintro e z21 ⟨rfl, ha21, hc21⟩)
      | fail)
    have hC : Chg (fun k => k = b) z12 z21 := (((((Chg.new K15.out.1).trans K15.out.2.2.1 (fun _ _ h => h)).trans (Chg.new (M := fun k => k = b) h18b) (fun _ _ h => h)).trans hc19 (fun k hk h => by have := K15.out.1.size; omega)).trans (Chg.new (M := fun k => k = b) h15) (fun _ _ h => h)).trans hc21 (fun _ _ h => h)
    have kx21 := HS12.out.2.1.chg hC HS2.out.2.2.2
    have ky21 := HS12.out.2.2.1.chg hC H6.out.2.2
    have hw21 : Below w.heap.size w z21 := HS12.out.2.2.2.1.trans (hC.below HS12.out.2.2.2.1.size (fun k hk e => by have := HS1.out.2.2; omega))
    obtain ⟨m4, g41, ha4⟩ : ∃ m4, glk zE m4 (aofL 1) = zE ∧ AcM z21 p b m4 := ⟨_, glk_del _ _, ha21⟩
    have a0 : z21.cell? ⟨gx, 0, none⟩ = some (.int .u64 (lb 5 0)) := cell_of_row _ _ 0 _ _ _ kx21
    have a1 : z21.cell? ⟨gx, 1, none⟩ = some (.int .u64 (lb 5 1)) := cell_of_row _ _ 1 _ _ _ kx21
    have a2 : z21.cell? ⟨gx, 2, none⟩ = some (.int .u64 (lb 5 2)) := cell_of_row _ _ 2 _ _ _ kx21
    have a3 : z21.cell? ⟨gx, 3, none⟩ = some (.int .u64 (lb 5 3)) := cell_of_row _ _ 3 _ _ _ kx21
    have a4 : z21.cell? ⟨gx, 4, none⟩ = some (.int .u64 1) := cell_of_row _ _ 4 _ _ _ kx21
    have a5 : z21.cell? ⟨gx, 5, none⟩ = some (.int .u64 2) := cell_of_row _ _ 5 _ _ _ kx21
    have a6 : z21.cell? ⟨gx, 6, none⟩ = some (.slice none 0 0) := cell_of_row _ _ 6 _ _ _ kx21
    have b0 : z21.cell? ⟨gy, 0, none⟩ = some (.int .u64 (lb 5 0)) := cell_of_row _ _ 0 _ _ _ ky21
    have b1 : z21.cell? ⟨gy, 1, none⟩ = some (.int .u64 (lb 5 1)) := cell_of_row _ _ 1 _ _ _ ky21
    have b2 : z21.cell? ⟨gy, 2, none⟩ = some (.int .u64 (lb 5 2)) := cell_of_row _ _ 2 _ _ _ ky21
    have b3 : z21.cell? ⟨gy, 3, none⟩ = some (.int .u64 (lb 5 3)) := cell_of_row _ _ 3 _ _ _ ky21
    have b4 : z21.cell? ⟨gy, 4, none⟩ = some (.int .u64 1) := cell_of_row _ _ 4 _ _ _ ky21
    have b5 : z21.cell? ⟨gy, 5, none⟩ = some (.int .u64 2) := cell_of_row _ _ 5 _ _ _ ky21
    have b6 : z21.cell? ⟨gy, 6, none⟩ = some (.slice cx 0 cn) := cell_of_row _ _ 6 _ _ _ ky21
    have HL := Lib.hid (fun Z (hZ : Below z21.heap.size z21 Z) => (by have h := aslots_new p b m4 (aofL 1) (aofL_ad (by decide)) Z (ha4.keep hZ) (by rw [g41]; rfl); rw [g41] at h; exact h : Calls Try.prog 18 #[.pointer (some ⟨p, 0, none⟩), .agg (adC (aofL 1))] Z fun r w' => ∃ g, r = .returned (.pointer (some ⟨g, 0, none⟩)) ∧ SlN Z w' g ∧ AcM w' p b (gput m4 (aofL 1) ((0, 0), 0, [], some g)) ∧ Chg (fun k => k = b) Z w'))
    have HF := Lib.hid (And.intro hw21 HS1.out.2.2)
    have hzz : ∀ X, (binOp .eql 36 (.agg #[.int .u64 0, .int .u64 0, .int .u64 0, .int .u64 0, .int .u64 0]) (.agg #[.int .u64 0, .int .u64 0, .int .u64 0, .int .u64 0, .int .u64 0])).run Try.prog X = .ok (.bool true) X := fun X => by have h := eqVal_any (0, 0) (0, 0) okP0 okP0 X; rw [vP0] at h; exact h
    clear hC kx21 ky21 hw21 ha4 g41 ha21 hc21 h15 ha19 hc19 h17 h18 h18b K15 h14b HSL
    go_wp2_with (first
      | (go_at_call 15; (with_reducible refine (same51 cx cn _).mono ?_); rintro e y1 ⟨rfl, k1⟩)
      | (go_at_call 15; (with_reducible refine (same00 _ _ _).mono ?_); rintro e y8 ⟨rfl, k8⟩)
      | (go_at_call 8; refine (ao1 _).mono ?_; rintro e y2 ⟨rfl, k2⟩)
      | (go_at_call 18; refine (HL.out _ (bstep k1 k2)).mono ?_; rintro e y3 ⟨g2, rfl, hs3, ha3, hc3⟩; have K3 := Lib.hid (And.intro (bstep k1 k2) (And.intro ha3 (And.intro hc3 hs3))); clear k1 k2 hs3 ha3 hc3)
      | (go_at_call 16; refine (of7 _).mono ?_; rintro e y4 ⟨rfl, k4⟩)
      | (go_at_call 21; refine (sget7 _ _ _ K3.out.2.2.2 k4).mono ?_; rintro e y5 ⟨rfl, k5⟩; have k5b := bstep k4 k5)
      | (go_at_call 10; refine (aget0 (K3.out.2.1.keep (bstep k5b k2))).mono ?_; rintro e y7 ⟨x7, c7, rfl, k7⟩)
      | fail)
    go_ret
    refine ⟨rfl, ?_⟩
    have q1 : Below w.heap.size w y3 := (HF.out.1.trans (K3.out.1.mono HF.out.1.size)).trans (K3.out.2.2.1.below (Nat.le_trans HF.out.1.size K3.out.1.size) (fun k hk e => by have := HF.out.2; omega))
    have q2 := bstep (bstep (bstep k5b k2) k7) k8
    exact q1.trans (q2.mono q1.size)
end Go.Proofs.Ytcplhalgjjhmdaa
