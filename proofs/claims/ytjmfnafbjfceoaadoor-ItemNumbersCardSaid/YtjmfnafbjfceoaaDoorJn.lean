/- item's law: the chapter's rows. -/
import Derived.Test.YtjmfnafbjfceoaaDoorJm
namespace Go.Proofs.YtjmfnafbjfceoaaDoor
open Go.RowKit Go.Shelf
attribute [local irreducible] lb wdG byA byC heL nuL laB laL toS
theorem cut_815 : cutS [129, 5] = some (1, [5], []) := by rw [cutS_cons]; unfold kdN hdN leS; simp
theorem cut_b8 : cutS [184, 1, 9] = none := by rw [cutS_cons]; unfold kdN hdN leS nuL woS; simp [numB]
theorem cut_56 : cutS [5, 6] = some (0, [5], [6]) := by rw [cutS_cons]; simp
theorem ko_5 : koL [5] = 0 := by unfold koL; simp
theorem wo_01 : woS false [0, 1] = (0, 160) := by unfold woS; simp
/-- A slice of bytes that was just built. -/
theorem Bt.built {X : World} {l : List Nat} (hl : ∀ x ∈ l, x < 256) (hn : l.length ≤ 1000) (g : Nat) (hg : g = X.heap.size) (n : Nat) (hln : l.length = n) : Bt (g + 1) (X.alloc (.cells (bvs l).toArray 5)) (.slice (some ⟨g, 0, none⟩) n n) l := by
  subst hg hln
  refine ⟨hl, _, _, rfl, Nat.le_refl _, by omega, .inr ⟨_, 0, rfl, fun _ => ⟨by omega, by simp⟩, fun k u hu => ?_⟩⟩
  rw [Nat.zero_add, cell_of_row _ _ k _ _ _ (Blk.new X _ _)]
  simp [bvs_get, hu]

set_option maxRecDepth 100000 in
set_option maxHeartbeats 8000000 in
theorem works_any6 (w : World) (hH : HD w) :
    Calls Tryd.prog 9 #[] w fun e w' => e = .returned (.bool true) ∧ Below w.heap.size w w' := by
  have HH := Lib.hid hH
  clear hH
  go_enter Tryd.func9, Tryd.ntmps9
  go_wp2_with fail
  -- a: one byte below the heads
  have hW1 : Below w.heap.size w (w.alloc (.cells #[.int .u8 5] 5)) := balloc (Below.refl _ _) _
  refine (encode_bytes _ [5] (w.heap.size + 1) _ (Bt.built (X := w) (l := [5]) (by simp) (by simp) _ rfl 1 rfl) (by rw [laB_5]; simp) (HH.out.keep hW1)).mono ?_
  rw [laB_5]
  rintro e w1 ⟨xa, ma, ca, rfl, hOa, h1⟩
  have hWa := bstep hW1 h1
  have HA := Lib.hid (And.intro hOa.bt hWa)
  clear hW1 h1 hOa hWa
  go_wp2_with fail
  -- b: one byte that is a head
  have hW2 := balloc (Below.refl w1.heap.size w1) (.cells #[.int .u8 128] 5)
  refine (encode_bytes _ [128] (w1.heap.size + 1) _ (Bt.built (X := w1) (l := [128]) (by simp) (by simp) _ rfl 1 rfl) (by rw [laB_128]; simp) (HH.out.keep (bstep HA.out.2 hW2))).mono ?_
  rw [laB_128]
  rintro e w2 ⟨xb, mb, cb, rfl, hOb, h2⟩
  have HB := Lib.hid (And.intro ((HA.out.1.new hW2).new h2) (And.intro hOb.bt (bstep (bstep HA.out.2 hW2) h2)))
  clear hW2 hOb h2 HA
  go_wp2_with fail
  -- c: no bytes
  refine (encode_bytes _ [] 0 _ (Bt.nil 0 w2) (by rw [laB_nil]; simp) (HH.out.keep HB.out.2.2)).mono ?_
  rw [laB_nil]
  rintro e w3 ⟨xc, mc, cc, rfl, hOc, h3⟩
  have HC := Lib.hid (And.intro (HB.out.1.new h3) (And.intro (HB.out.2.1.new h3) (And.intro hOc.bt (bstep HB.out.2.2 h3))))
  clear hOc h3 HB
  go_wp2_with fail
  -- d: the list
  refine (dog_any w3).mono ?_
  rintro e w4 ⟨S, D, rfl, hb4, hs4, h4⟩
  have HD4 := Lib.hid (And.intro hb4 hs4)
  have HC2 := Lib.hid (And.intro (HC.out.1.new h4) (And.intro (HC.out.2.1.new h4) (And.intro (HC.out.2.2.1.new h4) (bstep HC.out.2.2.2 h4))))
  clear hb4 hs4 h4 HC
  go_wp2_with fail
  refine (encode_dog S D w4 HD4.out.1 HD4.out.2 (HH.out.keep HC2.out.2.2.2)).mono ?_
  rintro e w5 ⟨xd, md, cd, rfl, hOd, h5⟩
  have H5 := Lib.hid (And.intro (HC2.out.1.new h5) (And.intro (HC2.out.2.1.new h5) (And.intro (HC2.out.2.2.1.new h5) (And.intro hOd.bt (bstep HC2.out.2.2.2 h5)))))
  clear hOd h5 HC2 HD4
  go_wp2_with fail
  -- e: one byte of the wrong form
  have hW6 := balloc (Below.refl w5.heap.size w5) (.cells #[.int .u8 129, .int .u8 5] 5)
  refine (decode_err (w5.heap.size + 1) _ [129, 5] _ (Bt.built (X := w5) (l := [129, 5]) (by simp) (by simp) _ rfl 2 rfl) (by simp) (HH.out.keep (bstep H5.out.2.2.2.2 hW6)) (by simp) (.inr ⟨1, [5], [], cut_815, .inr rfl, by rw [ko_5]; omega⟩)).mono ?_
  rintro e w6 ⟨rfl, h6⟩
  have hs6 := bstep hW6 (bstep h6 (balloc (Below.refl w6.heap.size w6) (.cells #[.bool false, .slice none 0 0, .slice none 0 0] 25)))
  have H6 := Lib.hid (And.intro (H5.out.1.new hs6) (And.intro (H5.out.2.1.new hs6) (And.intro (H5.out.2.2.1.new hs6) (And.intro (H5.out.2.2.2.1.new hs6) (bstep H5.out.2.2.2.2 hs6)))))
  clear hW6 h6 hs6 H5
  go_wp2_with fail
  -- f: a head that should have been a shorter one
  obtain ⟨W6, hW6⟩ : ∃ W6, w6.alloc (.cells #[.bool false, .slice none 0 0, .slice none 0 0] 25) = W6 := ⟨_, rfl⟩
  have hsz6 : w6.heap.size + 1 = W6.heap.size := by rw [← hW6]; simp
  rw [hW6] at H6 ⊢
  clear hW6
  have hW7 := balloc (Below.refl W6.heap.size W6) (.cells #[.int .u8 184, .int .u8 1, .int .u8 9] 5)
  refine (decode_err (w6.heap.size + 1 + 1) _ [184, 1, 9] _ (Bt.built (X := W6) (l := [184, 1, 9]) (by simp) (by simp) _ hsz6 3 rfl) (by simp [hsz6]) (HH.out.keep (bstep H6.out.2.2.2.2 hW7)) (by simp) (.inl cut_b8)).mono ?_
  rintro e w7 ⟨rfl, h7⟩
  have hs7 := bstep hW7 (bstep h7 (balloc (Below.refl w7.heap.size w7) (.cells #[.bool false, .slice none 0 0, .slice none 0 0] 25)))
  have H7 := Lib.hid (And.intro (H6.out.1.new hs7) (And.intro (H6.out.2.1.new hs7) (And.intro (H6.out.2.2.1.new hs7) (And.intro (H6.out.2.2.2.1.new hs7) (bstep H6.out.2.2.2.2 hs7)))))
  clear hW7 h7 hs7 H6 hsz6
  go_wp2_with fail
  -- g: the first of two
  obtain ⟨W7, hW7⟩ : ∃ W7, w7.alloc (.cells #[.bool false, .slice none 0 0, .slice none 0 0] 25) = W7 := ⟨_, rfl⟩
  have hsz7 : w7.heap.size + 1 = W7.heap.size := by rw [← hW7]; simp
  rw [hW7] at H7 ⊢
  clear hW7
  have hW8 := balloc (Below.refl W7.heap.size W7) (.cells #[.int .u8 5, .int .u8 6] 5)
  refine (first_ret (w7.heap.size + 1 + 1) _ [5, 6] 0 [5] [6] _ (Bt.built (X := W7) (l := [5, 6]) (by simp) (by simp) _ hsz7 2 rfl) (by simp [hsz7]) (HH.out.keep (bstep H7.out.2.2.2.2 hW8)) (by simp) cut_56 (.inl rfl) ko_5).mono ?_
  rintro e w8 ⟨xe, me, ce, rfl, hOe, h8⟩
  have hst8 := balloc (Below.refl w8.heap.size w8) (.cells #[.bool false, .slice xe me ce, .slice none 0 0] 25)
  have hs8 := bstep hW8 (bstep h8 hst8)
  have hTx := Blk.new w8 25 #[.bool false, .slice xe me ce, .slice none 0 0]
  have H8 := Lib.hid (And.intro (H7.out.1.new hs8) (And.intro (H7.out.2.1.new hs8) (And.intro (H7.out.2.2.1.new hs8) (And.intro (H7.out.2.2.2.1.new hs8) (And.intro (hOe.bt.new hst8) (And.intro hTx (bstep H7.out.2.2.2.2 hs8)))))))
  clear hW8 h8 hs8 H7 hsz7 hOe hst8 hTx
  go_wp2_with fail
  -- h: no number's item
  obtain ⟨W8, hW8⟩ : ∃ W8, w8.alloc (.cells #[.bool false, .slice xe me ce, .slice none 0 0] 25) = W8 := ⟨_, rfl⟩
  have hsz8 : w8.heap.size + 1 = W8.heap.size := by rw [← hW8]; simp
  rw [hW8] at H8 ⊢
  clear hW8
  have hW9 := balloc (Below.refl W8.heap.size W8) (.cells #[.int .u8 0, .int .u8 1] 5)
  refine (word_may false [0, 1] _ _ _ 0 0 (w8.heap.size + 1 + 1) _ (Bt.built (X := W8) (l := [0, 1]) (by simp) (by simp) _ hsz8 2 rfl) (by simp) (fun X _ => mayBe_bytes _ _ _ _)).mono ?_
  rw [wo_01]
  rintro e w9 ⟨rfl, h9⟩
  have hst9 := balloc (Below.refl w9.heap.size w9) (.cells #[.int .u64 (lb 0 0), .int .u64 (lb 0 1), .int .u64 (lb 0 2), .int .u64 (lb 0 3)] 47)
  have hs9 := bstep hW9 (bstep h9 hst9)
  have H9 := Lib.hid (And.intro (H8.out.1.new hs9) (And.intro (H8.out.2.1.new hs9) (And.intro (H8.out.2.2.1.new hs9) (And.intro (H8.out.2.2.2.1.new hs9) (And.intro (H8.out.2.2.2.2.1.new hs9) (And.intro (H8.out.2.2.2.2.2.1.keep hs9) (bstep H8.out.2.2.2.2.2.2 hs9)))))))
  clear hW9 h9 hs9 H8 hsz8 hst9
  go_wp2_with fail
  obtain ⟨W9, hW9⟩ : ∃ W9, w9.alloc (.cells #[.int .u64 (lb 0 0), .int .u64 (lb 0 1), .int .u64 (lb 0 2), .int .u64 (lb 0 3)] 47) = W9 := ⟨_, rfl⟩
  rw [hW9] at H9 ⊢
  clear hW9
  have va := conv_bytes _ _ [5] W9 H9.out.1 (by simp)
  have vb := conv_bytes _ _ [129, 128] W9 H9.out.2.1 (by simp)
  have vc := conv_bytes _ _ [128] W9 H9.out.2.2.1 (by simp)
  have vd := conv_bytes _ _ [197, 131, 100, 111, 103, 128] W9 H9.out.2.2.2.1 (by simp)
  have ta : (toS [5]).toList = [5] := toS_list _
  have tb : (toS [129, 128]).toList = [129, 128] := toS_list _
  have tc : (toS [128]).toList = [128] := toS_list _
  have td : (toS [197, 131, 100, 111, 103, 128]).toList = [197, 131, 100, 111, 103, 128] := toS_list _
  generalize toS [5] = sa at va ta
  generalize toS [129, 128] = sb at vb tb
  generalize toS [128] = sc at vc tc
  generalize toS [197, 131, 100, 111, 103, 128] = sd at vd td
  have x0 : W9.cell? ⟨w8.heap.size, 0, none⟩ = some (.bool false) := cell_of_row _ _ 0 _ _ _ H9.out.2.2.2.2.2.1
  have x1 : W9.cell? ⟨w8.heap.size, 1, none⟩ = some (.slice xe me ce) := cell_of_row _ _ 1 _ _ _ H9.out.2.2.2.2.2.1
  have x2 : W9.cell? ⟨w8.heap.size, 2, none⟩ = some (.slice none 0 0) := cell_of_row _ _ 2 _ _ _ H9.out.2.2.2.2.2.1
  refine (num_any _ _).mono ?_
  rintro e wx ⟨rfl, rfl⟩
  go_wp2_with (first | (go_at_call 12; refine (num_any _ _).mono ?_; rintro e wx ⟨rfl, rfl⟩) | fail)
  have hWa := balloc (Below.refl W9.heap.size W9) (.cells #[.int .u8 5] 5)
  have hSame := rsame_bytes w8.heap.size (W9.heap.size + 1) (.slice xe me ce) (.slice (some ⟨W9.heap.size, 0, none⟩) 1 1) [5] [5] _ (H9.out.2.2.2.2.1.new hWa) (Bt.built (X := W9) (l := [5]) (by simp) (by simp) _ rfl 1 rfl) (by simp) (by simp)
  rw [decide_eq_true rfl] at hSame
  refine hSame.mono ?_
  rintro e w10 ⟨rfl, h10⟩
  have H10 := Lib.hid (bstep H9.out.2.2.2.2.2.2 (bstep hWa h10))
  clear hWa hSame h10 va vb vc vd x0 x1 x2 ta tb tc td H9
  go_wp2_with (first | (go_at_call 12; refine (num_any _ _).mono ?_; rintro e wx ⟨rfl, rfl⟩) | fail)
  refine (rof_any 256 (by unfold B64; omega) _).mono ?_
  rintro e w11 ⟨rfl, h11⟩
  have H11 := Lib.hid (bstep H10.out h11)
  clear h11 H10
  go_wp2_with fail
  refine (number_any 256 _).mono ?_
  rintro e w12 ⟨B, rfl, hB, hBw, h12⟩
  have hwd : wdN 256 = 2 := by rw [wd_small 256 (by omega) (by omega), if_neg (by omega)]
  have hnb : nbV B (wdN 256) = .slice (some ⟨B, 30, none⟩) 2 2 := by rw [hwd]; unfold nbV; rw [if_neg (by omega)]
  have hbt : Bt w12.heap.size w12 (.slice (some ⟨B, 30, none⟩) 2 2) [1, 0] := by
    refine ⟨by simp, _, _, rfl, Nat.le_refl _, by omega, .inr ⟨_, 30, rfl, fun _ => ⟨hB.lt, hB.lt⟩, fun k u hu => ?_⟩⟩
    match k with
    | 0 => simp at hu; subst hu; rw [cell_of_row w12 B _ _ _ _ hB, byC_at 256 _ (by omega)]; unfold byA; simp
    | 1 => simp at hu; subst hu; rw [cell_of_row w12 B _ _ _ _ hB, byC_at 256 _ (by omega)]; unfold byA; simp
    | k + 2 => simp at hu
  have hWb := balloc (Below.refl w12.heap.size w12) (.cells #[.int .u8 1, .int .u8 0] 5)
  have hSame := rsame_bytes w12.heap.size (w12.heap.size + 1) (.slice (some ⟨B, 30, none⟩) 2 2) (.slice (some ⟨w12.heap.size, 0, none⟩) 2 2) [1, 0] [1, 0] _ (hbt.new hWb) (Bt.built (X := w12) (l := [1, 0]) (by simp) (by simp) _ rfl 2 rfl) (by simp) (by simp)
  rw [decide_eq_true rfl] at hSame
  have HS := Lib.hid hSame
  have H12 := Lib.hid (bstep (bstep H11.out h12) hWb)
  rw [hnb]
  clear hwd hnb hbt hB hBw h12 hWb hSame H11
  go_wp2_with fail
  refine HS.out.mono ?_
  rintro e w13 ⟨rfl, h13⟩
  have H13 := Lib.hid (bstep H12.out h13)
  clear HS H12 h13
  go_wp2_with fail
  go_ret
  exact ⟨rfl, H13.out⟩
end Go.Proofs.YtjmfnafbjfceoaaDoor
