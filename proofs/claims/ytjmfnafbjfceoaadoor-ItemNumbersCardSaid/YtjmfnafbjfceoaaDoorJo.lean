/- item's law: ItemLong: the walk. -/
import Derived.Test.YtjmfnafbjfceoaaDoorJn
namespace Go.Proofs.YtjmfnafbjfceoaaDoor
open Go.RowKit Go.Shelf
attribute [local irreducible] lb wdG byA byC nuL toS
theorem made_u8 (n : Nat) : madeCells (Value.int .u8 0).cells (n * 1) = (bvs (List.replicate n 0)).toArray := by
  apply Array.ext_getElem?
  intro i
  unfold madeCells bvs
  by_cases hi : i < n <;> simp [Value.cells, Nat.mod_one, hi]
theorem make_bytes (n : Nat) (hn : n ≤ 1000000) (w : World) : (Instr.makeSlice 22 (.int .i64 n) (.int .i64 n)).run Tryd.prog w = .ok (.slice (some ⟨w.heap.size, 0, none⟩) n n) (w.alloc (.cells (bvs (List.replicate n 0)).toArray 5)) := by
  obtain ⟨i, hi, hz, hs, hb⟩ := info_parts' infoU8
  have h := run_makeSlice (P := Tryd.prog) (w := w) 22 5 i (.int .u8 0) (by kernel_rfl) hi hz .i64 .i64 n n (by omega) (by omega) (by rw [hs]; omega) (by rw [hb]; omega) (by omega)
  rw [hs, Int.toNat_natCast, made_u8] at h
  exact h
theorem Bt.made {X : World} (n : Nat) (g : Nat) (hg : g = X.heap.size) (hn : n ≤ 1000000) : Bt (g + 1) (X.alloc (.cells (bvs (List.replicate n 0)).toArray 5)) (.slice (some ⟨g, 0, none⟩) n n) (List.replicate n 0) := by
  subst hg
  refine ⟨fun x hx => by have := List.eq_of_mem_replicate hx; omega, _, _, by rw [List.length_replicate], by rw [List.length_replicate]; exact Nat.le_refl _, by omega, .inr ⟨_, 0, rfl, fun _ => ⟨by omega, by simp⟩, fun k u hu => ?_⟩⟩
  rw [Nat.zero_add, cell_of_row _ _ k _ _ _ (Blk.new X _ _)]
  simp [bvs_get, hu]
theorem la_noughts (n : Nat) (h1 : 256 ≤ n) (h2 : n < 65536) : (laB (List.replicate n 0)).length = n + 3 := by
  unfold laB koL
  rw [if_neg (by simp; omega), List.length_append, List.length_replicate, heL_eq _ _ h2, if_neg (by omega), if_neg (by omega)]
  simp; omega
theorem cut_noughts (n : Nat) : cutS (List.replicate (n + 1) 0) = some (0, [0], List.replicate n 0) := by
  rw [List.replicate_succ, cutS_cons, if_pos (by omega)]
theorem ko_0 : koL [0] = 0 := by unfold koL; simp
attribute [local irreducible] laB
set_option maxRecDepth 100000 in
set_option maxHeartbeats 8000000 in
theorem long_walk (m : Int) (w : World) (hH : HD w) :
    Calls Tryd.prog 6 #[.int .i64 m] w fun e w' => e = .returned (.bool true) ∧ Below w.heap.size w w' := by
  by_cases hlo : m < -3
  · have hWk := Lib.hid (works_any6 w hH)
    clear hH
    go_enter Tryd.func6, Tryd.ntmps6
    go_wp2_with fail
    refine hWk.out.mono ?_
    rintro e w1 ⟨rfl, h1⟩
    have H1 := Lib.hid h1
    clear h1 hWk
    go_wp2_with fail
    go_ret
    exact ⟨rfl, H1.out⟩
  · by_cases hhi : 2 < m
    · have hWk := Lib.hid (works_any6 w hH)
      clear hH
      have hlo2 : -3 ≤ m := by omega
      go_enter Tryd.func6, Tryd.ntmps6
      go_wp2_with fail
      refine hWk.out.mono ?_
      rintro e w1 ⟨rfl, h1⟩
      have H1 := Lib.hid h1
      clear h1 hWk
      go_wp2_with fail
      go_ret
      exact ⟨rfl, H1.out⟩
    · obtain ⟨k, hk, hk5⟩ : ∃ k : Nat, m = (k : Int) - 3 ∧ k ≤ 5 := ⟨(m + 3).toNat, by omega, by omega⟩
      subst hk
      have HH := Lib.hid hH
      have g1 : ¬ (k : Int) - 3 < -3 := by omega
      have g2 : ¬ (2 : Int) < (k : Int) - 3 := by omega
      have g3 : IntKind.i64.wrap (4093 + ((k : Int) - 3)) = ((4090 + k : Nat) : Int) := (IntWalk.i64_in _ (by omega)).trans (by omega)
      have g4 : IntKind.i64.wrap (4096 + ((k : Int) - 3)) = ((4093 + k : Nat) : Int) := (IntWalk.i64_in _ (by omega)).trans (by omega)
      obtain ⟨a, ha⟩ : ∃ a, 4090 + k = a := ⟨_, rfl⟩
      obtain ⟨b, hb⟩ : ∃ b, 4093 + k = b := ⟨_, rfl⟩
      rw [ha] at g3
      rw [hb] at g4
      have hm1 := make_bytes a (by omega)
      have hm2 := make_bytes b (by omega)
      have HA := Lib.hid (And.intro ha hb)
      clear hH ha hb hlo hhi
      go_enter Tryd.func6, Tryd.ntmps6
      go_wp2_with fail
      by_cases hk3 : k ≤ 3
      · have g5 : ¬ (0 : Int) < (k : Int) - 3 := by omega
        have hW1 : Below w.heap.size w (w.alloc (.cells (bvs (List.replicate a 0)).toArray 5)) := balloc (Below.refl _ _) _
        refine (encode_bytes _ (List.replicate a 0) (w.heap.size + 1) _ (Bt.made (X := w) a _ rfl (by have := HA.out; omega)) (by rw [la_noughts a (by have := HA.out; omega) (by have := HA.out; omega)]; have := HA.out; omega) (HH.out.keep hW1)).mono ?_
        rintro e w1 ⟨xa, ma, ca, rfl, hOa, h1⟩
        have hma : ma = b := by
          obtain ⟨x, c, e⟩ := hOa.is
          injection e with _ e _
          rw [e, la_noughts a (by have := HA.out; omega) (by have := HA.out; omega)]; have := HA.out; omega
        subst hma
        have H1 := Lib.hid (bstep hW1 h1)
        clear hOa hW1 h1
        go_wp2_with fail
        have hWm0 : Below w1.heap.size w1 (w1.alloc (.cells (bvs (List.replicate ma 0)).toArray 5)) := balloc (Below.refl _ _) _
        refine (decode_short (w1.heap.size + 1) _ (List.replicate ma 0) 0 [0] (List.replicate (ma - 1) 0) _ (Bt.made (X := w1) ma _ rfl (by have := HA.out; omega)) (by simp) (HH.out.keep (bstep H1.out hWm0)) (by rw [List.length_replicate]; have := HA.out; omega) (by have h := cut_noughts (ma - 1); rwa [show ma - 1 + 1 = ma by have := HA.out; omega] at h) (.inl rfl) ko_0 (by intro h; have := congrArg List.length h; simp at this; have := HA.out; omega)).mono ?_
        rintro e w2 ⟨rfl, hw2⟩
        have hst0 := bstep hWm0 (bstep hw2 (balloc (Below.refl w2.heap.size w2) (.cells #[.bool false, .slice none 0 0, .slice none 0 0] 25)))
        have H2 := Lib.hid (bstep H1.out hst0)
        clear hWm0 hw2 hst0 H1
        go_wp2_with fail
        obtain ⟨W2, hW2⟩ : ∃ W2, w2.alloc (.cells #[.bool false, .slice none 0 0, .slice none 0 0] 25) = W2 := ⟨_, rfl⟩
        have hsz2 : w2.heap.size + 1 = W2.heap.size := by rw [← hW2]; simp
        rw [hW2] at H2 ⊢
        clear hW2
        have hWm1 : Below W2.heap.size W2 (W2.alloc (.cells (bvs (List.replicate ma 0)).toArray 5)) := balloc (Below.refl _ _) _
        refine (rdecode_not 0 1 _ ma ma _ (.inr (by have := HA.out; omega)) (fun X hX => (rfirst_alone (w2.heap.size + 1 + 1) _ 0 (List.replicate (ma - 1) 0) X (by have h := (Bt.made (X := W2) ma _ hsz2 (by have := HA.out; omega)).new hX; rwa [show List.replicate ma 0 = 0 :: List.replicate (ma - 1) 0 by rw [← List.replicate_succ, show ma - 1 + 1 = ma by have := HA.out; omega]] at h) (by omega) (by simp; have := HA.out; omega)).mono (by rintro e w' ⟨x, c, rfl, h⟩; exact ⟨false, x, 1, c, none, 0, 0, rfl, h⟩))).mono ?_
        rw [if_pos rfl]
        rintro e w3 ⟨rfl, hw3⟩
        have hst1 := bstep hWm1 (bstep hw3 (balloc (Below.refl w3.heap.size w3) (.cells #[.bool false, .slice none 0 0, .slice none 0 0] 25)))
        have H3 := Lib.hid (bstep H2.out hst1)
        clear hWm1 hw3 hst1 H2
        go_wp2_with fail
        have hWk := Lib.hid (works_any6 _ (HH.out.keep H3.out))
        refine (num_any _ _).mono ?_
        rintro e wx ⟨rfl, rfl⟩
        go_wp2_with (first | (go_at_call 12; refine (num_any _ _).mono ?_; rintro e wx ⟨rfl, rfl⟩) | fail)
        refine hWk.out.mono ?_
        rintro e w4 ⟨rfl, h4⟩
        have H4 := Lib.hid (bstep H3.out h4)
        clear hWk h4 H3
        go_wp2_with fail
        go_ret
        exact ⟨rfl, H4.out⟩
      · have g5 : (0 : Int) < (k : Int) - 3 := by omega
        have hW1 : Below w.heap.size w (w.alloc (.cells (bvs (List.replicate a 0)).toArray 5)) := balloc (Below.refl _ _) _
        refine (encode_bytes_over _ (List.replicate a 0) (w.heap.size + 1) _ (Bt.made (X := w) a _ rfl (by have := HA.out; omega)) (by rw [List.length_replicate]; have := HA.out; omega) (by rw [la_noughts a (by have := HA.out; omega) (by have := HA.out; omega)]; have := HA.out; omega) (HH.out.keep hW1)).mono ?_
        rintro e w1 ⟨rfl, h1⟩
        have H1 := Lib.hid (bstep hW1 h1)
        clear hW1 h1
        go_wp2_with fail
        have hWm0 : Below w1.heap.size w1 (w1.alloc (.cells (bvs (List.replicate b 0)).toArray 5)) := balloc (Below.refl _ _) _
        refine (decode_long (w1.heap.size + 1) _ (List.replicate b 0) _ (Bt.made (X := w1) b _ rfl (by have := HA.out; omega)) (by rw [List.length_replicate]; have := HA.out; omega)).mono ?_
        rintro e w2 ⟨rfl, hw2⟩
        have hst0 := bstep hWm0 (bstep hw2 (balloc (Below.refl w2.heap.size w2) (.cells #[.bool false, .slice none 0 0, .slice none 0 0] 25)))
        have H2 := Lib.hid (bstep H1.out hst0)
        clear hWm0 hw2 hst0 H1
        go_wp2_with fail
        obtain ⟨W2, hW2⟩ : ∃ W2, w2.alloc (.cells #[.bool false, .slice none 0 0, .slice none 0 0] 25) = W2 := ⟨_, rfl⟩
        have hsz2 : w2.heap.size + 1 = W2.heap.size := by rw [← hW2]; simp
        rw [hW2] at H2 ⊢
        clear hW2
        have hWm1 : Below W2.heap.size W2 (W2.alloc (.cells (bvs (List.replicate b 0)).toArray 5)) := balloc (Below.refl _ _) _
        refine (rdecode_not 3 0 _ b b _ (.inl (by omega)) (fun X hX => (rfirst_long _ b b (by have := HA.out; omega) X).mono (by rintro e w' ⟨rfl, h⟩; exact ⟨false, none, 0, 0, none, 0, 0, rfl, h⟩))).mono ?_
        rw [if_neg (by omega)]
        rintro e w3 ⟨rfl, hw3⟩
        have hst1 := bstep hWm1 (bstep hw3 (balloc (Below.refl w3.heap.size w3) (.cells #[.bool false, .slice none 0 0, .slice none 0 0] 25)))
        have H3 := Lib.hid (bstep H2.out hst1)
        clear hWm1 hw3 hst1 H2
        go_wp2_with fail
        have hWk := Lib.hid (works_any6 _ (HH.out.keep H3.out))
        refine (num_any _ _).mono ?_
        rintro e wx ⟨rfl, rfl⟩
        go_wp2_with (first | (go_at_call 12; refine (num_any _ _).mono ?_; rintro e wx ⟨rfl, rfl⟩) | fail)
        refine hWk.out.mono ?_
        rintro e w4 ⟨rfl, h4⟩
        have H4 := Lib.hid (bstep H3.out h4)
        clear hWk h4 H3
        go_wp2_with fail
        go_ret
        exact ⟨rfl, H4.out⟩
end Go.Proofs.YtjmfnafbjfceoaaDoor
