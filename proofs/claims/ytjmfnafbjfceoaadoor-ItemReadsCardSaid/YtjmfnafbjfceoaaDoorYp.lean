/- item's law: ItemLays: the walk. -/
import Derived.Test.YtjmfnafbjfceoaaDoorQh
import Derived.Test.YtjmfnafbjfceoaaDoorQf
import Derived.Test.YtjmfnafbjfceoaaDoorJx
import Derived.Test.YtjmfnafbjfceoaaDoorQi
import Derived.Test.YtjmfnafbjfceoaaDoorQj
import Derived.Deep.RegionHeld3
import Derived.Deep.MidRow
namespace Go.Proofs.YtjmfnafbjfceoaaDoor
open Go.RowKit Go.Shelf Go.ChangeShapes Go.WideShapes Go.ChangeAt
attribute [local irreducible] lb wdG byA byC nuL toS heL
set_option maxRecDepth 100000 in
set_option maxHeartbeats 8000000 in
theorem lays_walk (t : It) (v : Value) (w : World) (hv : ItO w.heap.size w t v) (hH : HD w) :
    Calls Tryd.prog 3 #[v] w fun e w' => e = .returned (.bool true) ∧ Below w.heap.size w w' := by
  obtain ⟨b, x, m, c, y, n, d, hvv⟩ := id hv.is
  unfold itW at hvv
  subst hvv
  have HH := Lib.hid (And.intro hH hv)
  clear hH hv
  go_enter Tryd.func3, Tryd.ntmps3
  go_wp2_with fail
  have hW0 : Below w.heap.size w (w.alloc (.cells #[.bool b, .slice x m c, .slice y n d] 25)) := balloc (Below.refl _ _) _
  have hX0 := Blk.new w 25 #[.bool b, .slice x m c, .slice y n d]
  refine (few_tot w.heap.size w t _ HH.out.2 600 _ (by omega) (Int.le_refl _) hW0).mono ?_
  rintro e w1 ⟨⟨r, rfl, _, hr⟩, h1⟩
  have hX1 := hX0.keep h1
  have hW1 := bstep hW0 h1
  have k0 := cell_of_row _ _ 0 _ _ _ hX1
  have k1 := cell_of_row _ _ 1 _ _ _ hX1
  have k2 := cell_of_row _ _ 2 _ _ _ hX1
  by_cases hr0 : 0 < r
  · obtain ⟨hsm, htot⟩ := hr hr0
    have g0 : ¬ r ≤ 0 := by omega
    have hlen : (laT 8 t).length ≤ 1800 := by
      have h1 := htot 8
      have h2 := laT_len 8 t (by omega)
      omega
    cases hrt : rtB 8 t with
    | false =>
      have hv1 := HH.out.2.new hW1
      have HE := Lib.hid (encode_noto t _ w.heap.size w1 hW1.size hv1 hsm hrt)
      have H1 := Lib.hid (And.intro hsm (And.intro hX1 (And.intro hW1 hrt)))
      clear hW0 hX0 h1 hX1 hW1 hsm hr hlen htot hrt hv1
      go_wp2_with fail
      refine HE.out.mono ?_
      rintro e w2 ⟨rfl, h2⟩
      clear HE k0 k1 k2
      have hW2 := bstep H1.out.2.2.1 h2
      have hX2 := H1.out.2.1.keep h2
      have k0 := cell_of_row _ _ 0 _ _ _ hX2
      have k1 := cell_of_row _ _ 1 _ _ _ hX2
      have k2 := cell_of_row _ _ 2 _ _ _ hX2
      have HE := Lib.hid (rencode_not t _ w.heap.size w2 hW2.size (HH.out.2.new hW2) H1.out.1 H1.out.2.2.2)
      have H2 := Lib.hid hW2
      clear h2 hW2 hX2 H1
      go_wp2_with fail
      refine HE.out.mono ?_
      rintro e w3 ⟨rfl, h3⟩
      clear HE k0 k1 k2
      have H3 := Lib.hid (bstep H2.out h3)
      have c1 := conv_bytes w3.heap.size (.slice none 0 0) [] w3 (Ow.nil w3 0).bt (by simp)
      have HWk := Lib.hid (works_any6 w3 (HH.out.1.keep H3.out))
      clear h3 H2
      generalize toS [] = s0 at c1
      go_wp2_with (first | (go_at_call 12; refine (num_any _ _).mono ?_; rintro e wx ⟨rfl, rfl⟩) | fail)
      refine HWk.out.mono ?_
      rintro e w4 ⟨rfl, h4⟩
      have H4 := Lib.hid (bstep H3.out h4)
      clear HWk h4 H3
      go_wp2_with fail
      go_ret
      exact ⟨rfl, H4.out⟩
    | true =>
      have hv1 := HH.out.2.new hW1
      have HE := Lib.hid (encode_o t _ w.heap.size w1 hW1.size hv1 hsm hrt (by omega) (HH.out.1.keep hW1))
      have H1 := Lib.hid (And.intro hsm (And.intro hX1 (And.intro hW1 hrt)))
      clear hW0 hX0 h1 hX1 hW1 hsm hr htot hrt hv1
      obtain ⟨lt, hlt⟩ : ∃ lt, laT 8 t = lt := ⟨_, rfl⟩
      have HLT := Lib.hid hlt
      rw [hlt] at hlen HE
      clear hlt
      go_wp2_with fail
      refine HE.out.mono ?_
      rintro e w2 ⟨z, p, q, rfl, hO, h2⟩
      obtain ⟨_, _, he⟩ := hO.is
      cases he
      clear HE k0 k1 k2
      have hW2 := bstep H1.out.2.2.1 h2
      have hX2 := H1.out.2.1.keep h2
      have k0 := cell_of_row _ _ 0 _ _ _ hX2
      have k1 := cell_of_row _ _ 1 _ _ _ hX2
      have k2 := cell_of_row _ _ 2 _ _ _ hX2
      have HE := Lib.hid (rencode_o t _ w.heap.size w2 hW2.size (HH.out.2.new hW2) H1.out.1 H1.out.2.2.2 (by rw [HLT.out]; omega))
      rw [HLT.out] at HE
      have H2 := Lib.hid (And.intro hW2 (And.intro hX2 (And.intro hO H1.out.1)))
      have hrt := H1.out.2.2.2
      have HRT := Lib.hid hrt
      clear h2 hW2 hX2 hO H1 hrt
      go_wp2_with fail
      refine HE.out.mono ?_
      rintro e w3 ⟨z2, p2, q2, rfl, hO2, h3⟩
      obtain ⟨_, _, he⟩ := hO2.is
      cases he
      clear HE k0 k1 k2
      have c1 := conv_bytes w3.heap.size _ lt w3 ((H2.out.2.2.1.new h3).bt) (by omega)
      have c2 := conv_bytes w3.heap.size _ lt w3 hO2.bt (by omega)
      have H3 := Lib.hid (And.intro (bstep H2.out.1 h3) (And.intro (H2.out.2.1.keep h3) (And.intro (H2.out.2.2.1.new h3) (And.intro hO2 H2.out.2.2.2))))
      obtain ⟨lz, hlz⟩ : ∃ lz, lt.length = lz := ⟨_, rfl⟩
      have HLZ := Lib.hid hlz
      rw [hlz] at H3 c1 c2 hlen ⊢
      clear h3 H2 hO2 hlz
      generalize toS lt = st at c1 c2
      go_wp2_with (first | (go_at_call 12; refine (num_any _ _).mono ?_; rintro e wx ⟨rfl, rfl⟩) | fail)
      have HD3 := Lib.hid (decode_laT t w3.heap.size (.slice z lz q) w3 (by have h := H3.out.2.2.1.bt; rw [HLT.out]; exact h) (Nat.le_refl _) (HH.out.1.keep H3.out.1) H3.out.2.2.2.2 HRT.out (by rw [HLT.out, HLZ.out]; omega))
      clear c1 c2
      refine HD3.out.mono ?_
      rintro e w4 ⟨b4, x4, m4, c4, y4, n4, d4, rfl, hI4, h4⟩
      have H4 := Lib.hid (And.intro (bstep H3.out.1 h4) (And.intro (H3.out.2.1.keep h4) (And.intro hI4.ito H3.out.2.2.2.2)))
      clear h4 hI4 HD3 H3 HLZ
      go_wp2_with fail
      refine (num_any _ _).mono ?_
      rintro e wx ⟨rfl, rfl⟩
      have hst := balloc (Below.refl w4.heap.size w4) (.cells #[.bool b4, .slice x4 m4 c4, .slice y4 n4 d4] 25)
      have hY := Blk.new w4 25 #[.bool b4, .slice x4 m4 c4, .slice y4 n4 d4]
      have hX := H4.out.2.1.keep hst
      have hW5 := bstep H4.out.1 hst
      have hI5 := H4.out.2.2.1.new hst
      obtain ⟨W5, hWW⟩ : ∃ W5, w4.alloc (.cells #[.bool b4, .slice x4 m4 c4, .slice y4 n4 d4] 25) = W5 := ⟨_, rfl⟩
      rw [hWW] at hY hX hW5 hI5 ⊢
      have hTT : sameT t t = true := (sameT_true t t).2 rfl
      have kX : ∀ w', Below W5.heap.size W5 w' → w'.cell? ⟨w.heap.size, 0, none⟩ = some (.bool b) ∧ w'.cell? ⟨w.heap.size, 1, none⟩ = some (.slice x m c) ∧ w'.cell? ⟨w.heap.size, 2, none⟩ = some (.slice y n d) := fun w' h => ⟨cell_of_row _ _ 0 _ _ _ (hX.keep h), cell_of_row _ _ 1 _ _ _ (hX.keep h), cell_of_row _ _ 2 _ _ _ (hX.keep h)⟩
      have kY : ∀ w', Below W5.heap.size W5 w' → w'.cell? ⟨w4.heap.size, 0, none⟩ = some (.bool b4) ∧ w'.cell? ⟨w4.heap.size, 1, none⟩ = some (.slice x4 m4 c4) ∧ w'.cell? ⟨w4.heap.size, 2, none⟩ = some (.slice y4 n4 d4) := fun w' h => ⟨cell_of_row _ _ 0 _ _ _ (hY.keep h), cell_of_row _ _ 1 _ _ _ (hY.keep h), cell_of_row _ _ 2 _ _ _ (hY.keep h)⟩
      have HR := Lib.hid (fun w' (h : Below W5.heap.size W5 w') => rsame_o w.heap.size w t _ HH.out.2 H4.out.2.2.2 t _ w4.heap.size w' (bstep hW5 h) (hI5.new h) H4.out.2.2.2)
      have HS := Lib.hid (fun w' (h : Below W5.heap.size W5 w') => same_o w.heap.size w t _ HH.out.2 H4.out.2.2.2 t _ w4.heap.size w' (bstep hW5 h) (hI5.new h) H4.out.2.2.2)
      rw [hTT] at HR HS
      have HWk := Lib.hid (fun w' (h : Below W5.heap.size W5 w') => works_any6 w' (HH.out.1.keep (bstep hW5 h)))
      have H5 := Lib.hid hW5
      have HK := Lib.hid (And.intro kX kY)
      clear hst hY hX hW5 hI5 hWW hTT kX kY
      obtain ⟨a0, a1, a2⟩ := HK.out.1 W5 (Below.refl _ _)
      obtain ⟨l0, l1, l2⟩ := HK.out.2 W5 (Below.refl _ _)
      go_wp2_with fail
      refine (HR.out W5 (Below.refl _ _)).mono ?_
      rintro e w6 ⟨rfl, h6⟩
      clear a0 a1 a2 l0 l1 l2
      obtain ⟨a0, a1, a2⟩ := HK.out.1 w6 h6
      obtain ⟨l0, l1, l2⟩ := HK.out.2 w6 h6
      have H6 := Lib.hid h6
      clear h6
      go_wp2_with fail
      refine (HS.out w6 H6.out).mono ?_
      rintro e w7 ⟨rfl, h7⟩
      clear a0 a1 a2 l0 l1 l2
      have H7 := Lib.hid (bstep H6.out h7)
      clear h7
      go_wp2_with fail
      refine (HWk.out w7 H7.out).mono ?_
      rintro e w8 ⟨rfl, h8⟩
      have H8 := Lib.hid (bstep H5.out (bstep H7.out h8))
      clear h8
      go_wp2_with fail
      go_ret
      exact ⟨rfl, H8.out⟩
  · have g0 : r ≤ 0 := by omega
    have H1 := Lib.hid (And.intro hW1 (HH.out.1.keep hW1))
    clear hW0 hX0 h1 hX1 hW1 hr
    have HWk := Lib.hid (works_any6 w1 H1.out.2)
    clear k0 k1 k2
    go_wp2_with fail
    refine HWk.out.mono ?_
    rintro e w4 ⟨rfl, h4⟩
    have H4 := Lib.hid (bstep H1.out.1 h4)
    clear HWk h4 H1
    go_wp2_with fail
    go_ret
    exact ⟨rfl, H4.out⟩
/-- What a call that only makes memory owes its row, where an argument lies in memory. -/
theorem post_of_kept6 {H : Type} {enc : TypeId × Value → H} {P : Program} {f : Func} {s : ChangeSpec} {apart fresh handsOn : Bool} {W W' : World} {args : Array Value} {v : Value} {ds gs : List (DataW H)} {before : List MemPlace}
    (hW : DataW.Whole enc P f.params.toList s.vars apart W args.toList ds gs before)
    (hres : ∀ (b : Nat) (sp : Nat → Bool) (hd : Bool), DataW.TrodAll enc P W' b sp hd f.resultTypes.toList (v.resultList f.resultTypes.size) (s.fn H (ds ++ gs)).results [])
    (hargs : DataW.TrodAll enc P W' 0 (fun b => decide (b < W.heap.size)) true f.params.toList args.toList (s.fn H (ds ++ gs)).args before)
    (hvars : DataW.TrodVars enc P W' (fun b => decide (b < W.heap.size)) s.vars (s.fn H (ds ++ gs)).vars [])
    (hk : W.keptBut W' (· ∈ before)) : s.post enc P f apart fresh handsOn false W args v W' := by
  refine ⟨ds, gs, before, [], before, [], hW, hres _ _ _, hargs, hvars, World.keptBut_mono (fun p hp => ⟨hp, ?_⟩) hk, fun h => by cases h⟩
  exact Or.inr (Or.inl hp)
set_option maxRecDepth 100000 in
theorem lays_all {H : Type} {enc : TypeId × Value → H} {X : World} {base : Nat} {sp : Nat → Bool} {held : Bool} {r : Reach} {b0 : Nat} {v : Value} {d : DataW H} {p : List MemPlace} (hv : Value.okWide Tryd.prog X r b0 25 v) (h : DataW.Trod enc Tryd.prog X base sp held 25 v d p) (hH : HD X) :
    Calls Tryd.prog 3 #[v] X fun e w' => e = .returned (.bool true) ∧ Below X.heap.size X w' := by
  obtain ⟨t, ht⟩ := arg_item hv h
  exact lays_walk t v X ht hH
end Go.Proofs.YtjmfnafbjfceoaaDoor
