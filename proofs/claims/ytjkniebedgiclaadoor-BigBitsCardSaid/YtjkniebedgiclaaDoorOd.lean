/- big: power, the walk. -/
import Derived.Test.YtjkniebedgiclaaDoorOc
namespace Go.Proofs.YtjkniebedgiclaaDoor
open Go.RowKit Go.Shelf
attribute [local go_sem] Oper.semAt_some
set_option maxRecDepth 100000 in
set_option maxHeartbeats 4000000 in
theorem mpower_any (B : Nat) (mx : Option Addr) (ml mc bf bl br n nr up M M0 : Nat) (av nv : Value) (al nl : List Nat) (R0 : Nat → Nat) (w : World) (hml : ml ≤ 128) (hal : al.length ≤ 128) (hnl : nl.length ≤ 128) (ha : Bto B w av al) (hn : Bto B w nv nl)
    (hnr : n + n = nr) (hup : up ≤ 63) (hM : M0 * 2 ^ up = M) (hm : Md w bf bl n M) (hr : Dk w br nr R0) (e5 : br ≠ bf) (e6 : br ≠ bl) :
    Calls Tryd.prog 23 #[mdv mx ml mc bf bl br n nr up, av, nv] w fun e w' =>
      ∃ v, e = .returned v ∧ Bto w'.heap.size w' v (tb (bv al ^ bv nl % M0) ml) ∧ Chg (fun k => k = br) w w' := by
  have hn0 : 0 < n ∧ n ≤ 16 := by obtain ⟨F, L, _, _, _, _, h1, h2, _⟩ := hm; exact ⟨h2, h1⟩
  have hmb : bf < w.heap.size ∧ bl < w.heap.size := by obtain ⟨F, L, h1, h2, _⟩ := hm; exact ⟨h1.lt, h2.lt⟩
  have hM1 : 1 < M := by
    obtain ⟨F, L, h1, h2, h3, h4, h5, h6, h7⟩ := hm
    have := dv_ge (f := F) n (n - 1) (by omega)
    have h8 : F (n - 1) * 1 ≤ F (n - 1) * B64 ^ (n - 1) := Nat.mul_le_mul_left _ (Nat.pow_pos B64_pos)
    omega
  have hbr := hr.lt
  obtain ⟨X, hX⟩ : ∃ X, w.alloc (.cells #[.slice mx ml mc, .slice (some ⟨bf, 0, none⟩) n n, .int .i64 up, .slice (some ⟨bl, 0, none⟩) n n, .slice (some ⟨br, 0, none⟩) nr nr] 56) = X := ⟨_, rfl⟩
  have hB : Blk X w.heap.size 56 (mdc mx ml mc bf bl br n nr up) := by rw [← hX]; exact Blk.new w _ _
  have hC : Below w.heap.size w X := by rw [← hX]; exact (Below.refl _ w).alloc (Nat.le_refl _) _
  have hXs : X.heap.size = w.heap.size + 1 := by rw [← hX]; simp
  have hmX := hm.chg (P := fun _ => False) (Chg.new hC) (fun h => h) (fun h => h)
  have hBA := Lib.hid (base_any B mx ml mc bf bl br n nr up M av al X hal (ha.new hC) hmX)
  have HX := Lib.hid hX
  have k0 := cell_of_row _ _ 0 _ _ _ hB
  have k1 := cell_of_row _ _ 1 _ _ _ hB
  have k2 := cell_of_row _ _ 2 _ _ _ hB
  have k3 := cell_of_row _ _ 3 _ _ _ hB
  have k4 := cell_of_row _ _ 4 _ _ _ hB
  have H0 := Lib.hid (And.intro hB (And.intro hC (And.intro hXs (And.intro hm (And.intro hr hn)))))
  have HP := Lib.hid (And.intro hnr (And.intro hM (And.intro e5 (And.intro e6 hM1))))
  have hmk := make_u64 n (by omega)
  clear hX hB hC hXs hmX ha hm hr hn hnr hM e5 e6 hM1
  refine (callsIn_wide (n := 20)).1 ?_
  refine callsIn_of_wp_marks Tryd.func23 rfl trivial ?_ rfl
  simp only [Tryd.ntmps23, List.size_toArray, List.length_cons, List.length_nil, Nat.reduceAdd, Nat.reduceSub, Array.replicate_succ, Array.replicate_zero, List.push_toArray, List.append_toArray, List.nil_append, List.cons_append]
  refine (wpIn_wide (n := 20)).2 ?_
  go_wp2_with fail
  rw [HX.out]
  go_wp2_with fail
  refine hBA.out.mono ?_
  rintro e w1 ⟨g, NB, E, rfl, hNB, hE, hEv, hgb, hb1⟩
  clear k0 k1 k2 k3 k4
  have hB1 := H0.out.1.keep hb1
  have k0 := cell_of_row _ _ 0 _ _ _ hB1
  have k1 := cell_of_row _ _ 1 _ _ _ hB1
  have k2 := cell_of_row _ _ 2 _ _ _ hB1
  have k3 := cell_of_row _ _ 3 _ _ _ hB1
  have k4 := cell_of_row _ _ 4 _ _ _ hB1
  have H1 := Lib.hid (And.intro hE (And.intro hEv (And.intro hgb (And.intro hb1 (And.intro hB1 hNB)))))
  have hgl := hE.lt
  have hb1l := hB1.lt
  have i1 : (0 : Int) < (n : Int) := by omega
  clear hE hEv hgb hb1 hB1 hNB
  go_wp2_with fail
  obtain ⟨W2, hW2⟩ : ∃ W2, (((w1.alloc (.cells #[.slice (some ⟨g, 0, none⟩) n n] 54)).alloc (.cells ((Array.replicate n (.int .u64 0)).setIfInBounds 0 (.int .u64 1)) 72)).alloc (.cells #[.slice (some ⟨w1.heap.size + 1, 0, none⟩) n n] 54)) = W2 := ⟨_, rfl⟩
  rw [hW2]
  have bB : Blk W2 w1.heap.size 54 #[.slice (some ⟨g, 0, none⟩) n n] := by rw [← hW2]; exact ((Blk.new w1 _ _).alloc _).alloc _
  have bP : Blk W2 (w1.heap.size + 1 + 1) 54 #[.slice (some ⟨w1.heap.size + 1, 0, none⟩) n n] := by
    rw [← hW2]
    have h := Blk.newS (w1.alloc (.cells #[.slice (some ⟨g, 0, none⟩) n n] 54)) (.cells ((Array.replicate n (.int .u64 0)).setIfInBounds 0 (.int .u64 1)) 72) 54 #[.slice (some ⟨w1.heap.size + 1, 0, none⟩) n n]
    rwa [World.size_alloc] at h
  have dP : Dk W2 (w1.heap.size + 1) n (upf (fun _ => 0) 0 1) := by
    rw [← hW2]
    refine ⟨_, (Blk.newS w1 _ _ _).alloc _, fun i hi => ?_, fun i hi => ?_⟩
    · unfold upf
      by_cases e : i = 0
      · subst e; rw [if_pos rfl, Array.getElem?_setIfInBounds_self_of_lt (by simpa using hi)]; rfl
      · rw [if_neg e, Array.getElem?_setIfInBounds_ne (Ne.symm e), Array.getElem?_replicate, if_pos hi]; rfl
    · unfold upf
      by_cases e : i = 0
      · rw [if_pos e]; unfold B64; omega
      · rw [if_neg e]; exact B64_pos
  have vP : dv (upf (fun _ => 0) 0 1) n = 1 := by
    obtain ⟨q, hq⟩ : ∃ q, n = q + 1 := ⟨n - 1, by omega⟩
    rw [hq, dv_low, dv_zero q fun i _ => by unfold upf; rw [if_neg (by omega)]]
    rfl
  have hW2b : Below w1.heap.size w1 W2 := by rw [← hW2]; exact balloc (balloc (balloc (Below.refl _ _) _) _) _
  have hW2s : W2.heap.size = w1.heap.size + 3 := by rw [← hW2]; simp
  have hw12 : Below w.heap.size w w1 := H0.out.2.1.trans (H1.out.2.2.2.1.mono (by have := H0.out.2.2.1; omega))
  have hw2 : Below w.heap.size w W2 := hw12.trans (hW2b.mono hw12.size)
  have hBI := Lib.hid (bits_any B nv nl W2 (H0.out.2.2.2.2.2.new hw2) (by omega))
  have H2 := Lib.hid (And.intro bB (And.intro bP (And.intro dP (And.intro vP (And.intro (H1.out.1.keep hW2b) (And.intro (H1.out.2.2.2.2.1.keep hW2b) (And.intro hw2 hW2s)))))))
  have hs1 : w.heap.size + 1 ≤ w1.heap.size := by have := H1.out.2.2.2.1.size; have := H0.out.2.2.1; omega
  clear hW2 bB bP dP vP hW2b hW2s hw12 hw2 k0 k1 k2 k3 k4 hmk
  generalize w1.heap.size = s1 at H2 hb1l hgl hs1 ⊢
  refine hBI.out.mono ?_
  rintro e V ⟨K, x0, c0, rfl, hK, hKb, hO, hb3⟩
  rename_i K1 hK1
  refine hK1 _ _ ?_
  clear hK1 K1
  --RNG
  go_wp2_with fail
  have hVs : W2.heap.size ≤ V.heap.size := hb3.size
  have hKl := hKb.lt
  obtain ⟨bB, bP, dP, vP, dE, bM, hw2, hW2s⟩ := H2.out
  have hwV : Below w.heap.size w V := hw2.trans (hb3.mono hw2.size)
  have hlb : ∀ x ∈ dz nl, x < 256 := fun x hx => H0.out.2.2.2.2.2.1 x (dz_mem nl x hx)
  have hdl := dz_le nl
  have hgw : w.heap.size < g := by have := H1.out.2.2.1; have := H0.out.2.2.1; omega
  have KeepB := Lib.hid (show ∀ X Y, Chg (fun k => k = s1 + 1 ∨ k = br) X Y → Bto V.heap.size X (.slice x0 (dz nl).length c0) (dz nl) → Bto V.heap.size Y (.slice x0 (dz nl).length c0) (dz nl) from fun X Y hc h => by
    obtain ⟨h1, y, c, hy, h2, h3, h4⟩ := h
    refine ⟨h1, y, c, hy, h2, h3, fun hne => ?_⟩
    obtain ⟨b, o, e, hb, hx, hcells⟩ := h4 hne
    have hbW : W2.heap.size ≤ b := by
      rcases hO.2.2 with ⟨hv, hn⟩ | ⟨gg, cap, cur, hv, hbg, _⟩
      · exact (hne (List.eq_nil_of_length_eq_zero hn)).elim
      · injection hv with e1 e2 e3
        injection hy with f1 f2 f3
        rw [← f1, e1] at e
        injection e with e
        injection e with e
        omega
    refine ⟨b, o, e, hb, Nat.lt_of_lt_of_le hx hc.size, fun k u hu => ?_⟩
    rw [hc.cell (o + k) hx (not_or (by omega) (by omega))]
    exact hcells k u hu)
  refine (wpIn_wide (n := 20)).1 ?_
  refine wpIn_rangeW (n := 20) (by omega) (gf := 28) (lb := #[.pointer (some ⟨K, 0, none⟩)]) rfl (enters_of Tryd.func28 (by kernel_rfl) rfl)
    (bits_seq (20 - 1) 0 K V.heap.size x0 c0 (dz nl) (by omega) (by omega) hlb V (by omega)) (Below.refl _ _) (by omega) (fun _ => rfl)
    (fun (pre : List Bool) X => ((((((((∃ A, Dk X (s1 + 1) n A ∧ dv A n = bv al ^ bn pre % M) ∧ (∃ R, Dk X br nr R)) ∧ Blk X w.heap.size 56 (mdc mx ml mc bf bl br n nr up)) ∧ Blk X s1 54 #[.slice (some ⟨g, 0, none⟩) n n]) ∧ Blk X (s1 + 1 + 1) 54 #[.slice (some ⟨s1 + 1, 0, none⟩) n n]) ∧ Dk X g NB E) ∧ Md X bf bl n M) ∧ (Blk X K 22 #[.slice x0 (dz nl).length c0] ∧ Bto V.heap.size X (.slice x0 (dz nl).length c0) (dz nl))) ∧ Chg (fun k => k = br ∨ w.heap.size ≤ k) w X)
    (fun _ _ _ => False)
    ((((((((Abide.ex fun A => (Abide.dk (by omega) n (fun _ => A)).and (Abide.pure _ (fun pre => dv A n = bv al ^ bn pre % M))).and (Abide.ex fun R => Abide.dk (by omega) nr (fun _ => R))).and (Abide.blk (by omega) _ (fun _ => _))).and (Abide.blk (by omega) _ (fun _ => _))).and (Abide.blk (by omega) _ (fun _ => _))).and (Abide.dk (by omega) NB (fun _ => E))).and (Abide.md (by omega) (by omega) n M)).and ((Abide.blk (by omega) _ (fun _ => _)).and (Abide.bto _ _)) |>.and (Abide.chg (by have := hwV.size; omega)))
    (fun _ _ _ _ _ hs _ _ => hs) (fun pre X h => h.1.2)
    ⟨⟨⟨⟨⟨⟨⟨⟨⟨_, dP.keep hb3, by rw [vP]; exact (Nat.mod_eq_of_lt HP.out.2.2.2.2).symm⟩, ⟨R0, H0.out.2.2.2.2.1.keep hwV⟩⟩, bM.keep hb3⟩, bB.keep hb3⟩, bP.keep hb3⟩, dE.keep hb3⟩, H0.out.2.2.2.1.chg (P := fun _ => False) (Chg.new hwV) (fun h => h) (fun h => h)⟩, hKb, hO.bto⟩, Chg.new hwV⟩
    (fun x a' _ => a' = { tmps := #[mdv mx ml mc bf bl br n nr up, av, nv, .pointer (some ⟨w.heap.size, 0, none⟩), undef, undef, .slice none 0 0, .pointer (some ⟨s1, 0, none⟩), .pointer (some ⟨s1 + 1 + 1, 0, none⟩), .bool x, mdv mx ml mc bf bl br n nr up, av, .slice (some ⟨g, 0, none⟩) n n, .pointer (some ⟨w.heap.size, 1, none⟩), .slice (some ⟨bf, 0, none⟩) n n, .int .i64 n, .slice (some ⟨s1 + 1, 0, none⟩) n n, .slice (some ⟨s1 + 1, 0, none⟩) n n, .pointer (some ⟨s1 + 1, 0, none⟩), nv, .func (.func 28) #[] #[.pointer (some ⟨K, 0, none⟩)], .bool x, undef, undef, undef, undef, undef, undef, undef, undef, undef, undef, undef, undef, undef, undef, undef], defers := [] })
    (fun x a' _ X Y row hs hg hr => hs)
    ?assign ?body ?done ?stop
  case assign =>
    rintro l2 pre x X K2 _ hi hK2
    gi_wp2
    exact hK2 _ _ (Kept.refl _ _) (Below.refl _ _) hi rfl
  case body =>
    rintro l2 pre x a' X hl2 _ _ ⟨⟨⟨⟨⟨⟨⟨⟨⟨A, dA, vA⟩, ⟨R, dR⟩⟩, hmb2⟩, hbb2⟩, hpb2⟩, hgE⟩, hmd⟩, hKK, hBB⟩, hCh⟩ rfl
    have k0 := cell_of_row _ _ 0 _ _ _ hmb2
    have k1 := cell_of_row _ _ 1 _ _ _ hmb2
    have k2 := cell_of_row _ _ 2 _ _ _ hmb2
    have k3 := cell_of_row _ _ 3 _ _ _ hmb2
    have k4 := cell_of_row _ _ 4 _ _ _ hmb2
    have k5 := cell_of_row _ _ 0 _ _ _ hpb2
    have hAM : dv A n < M := by rw [vA]; exact Nat.mod_lt _ (by have := HP.out.2.2.2.2; omega)
    have hMU := Lib.hid (multiply_any mx ml mc bf bl br n nr up M (s1 + 1) n (s1 + 1) n n n A A R X HP.out.1 (Nat.le_refl _) (Nat.le_refl _) (Nat.le_refl _) hmd dA dA dR (by omega) (by omega) (by omega) (by omega) HP.out.2.2.1 HP.out.2.2.2.1 hAM)
    have HX2 := Lib.hid (And.intro vA (And.intro hmb2 (And.intro hbb2 (And.intro hpb2 (And.intro hgE (And.intro hmd (And.intro hKK (And.intro hBB hCh))))))))
    clear vA hmb2 hbb2 hpb2 hgE hmd hKK hBB hCh dA dR hAM
    gi_wp2_with fail
    refine ⟨trivial, ?_⟩
    refine (show CallsIn (Fence.wide.inRound l2) 17 _ _ _ _ _ from (callsIn_wide (n := 17)).2 hMU.out).mono ?_
    rintro e Y ⟨A2, R2, rfl, dA2, vA2, dR2, hch2⟩
    obtain ⟨vA, hmb2, hbb2, hpb2, hgE, hmd, hKK, hBB, hCh⟩ := HX2.out
    have hXl := hpb2.lt
    have hXm := hmb2.lt
    have hXk := hKK.lt
    have hgl2 := hgE.lt
    have hmb3 := hmb2.chg hch2 (not_or (by omega) (by omega))
    have hbb3 := hbb2.chg hch2 (not_or (by omega) (by omega))
    have hpb3 := hpb2.chg hch2 (not_or (by omega) (by omega))
    have hgE3 := hgE.chg hch2 (not_or (by omega) (by omega))
    have hmd3 := hmd.chg hch2 (not_or (by omega) (fun e => HP.out.2.2.1 e.symm)) (not_or (by omega) (fun e => HP.out.2.2.2.1 e.symm))
    have hKw : W2.heap.size ≤ K := hK
    have hKK3 := hKK.chg hch2 (not_or (by omega) (by omega))
    have hBB3 := KeepB.out X Y hch2 hBB
    have hCh3 : Chg (fun k => k = br ∨ w.heap.size ≤ k) w Y := hCh.trans hch2 (fun k hk e => by omega)
    have hkp : Kept V.heap.size X Y := ⟨hch2.size, fun k hk hx => hch2.block k hx (not_or (by omega) (by omega))⟩
    have hbl0 : Below 0 X Y := hch2.below (Nat.zero_le _) (fun k hk => by omega)
    have hA2M : dv A2 n < M := by rw [vA2]; exact Nat.mod_lt _ (by have := HP.out.2.2.2.2; omega)
    have hpb := pow_bit (bv al) M (bn pre) x (dv A n) (dv A2 n) (dv E n) vA vA2 H1.out.2.1
    rw [← bn_snoc] at hpb
    have HY := Lib.hid (And.intro dA2 (And.intro dR2 (And.intro hmb3 (And.intro hbb3 (And.intro hpb3 (And.intro hgE3 (And.intro hmd3 (And.intro hKK3 (And.intro hBB3 (And.intro hCh3 (And.intro hkp (And.intro hbl0 hpb))))))))))))
    have hMU2 := Lib.hid (multiply_any mx ml mc bf bl br n nr up M (s1 + 1) n g n n NB A2 E R2 Y HP.out.1 (Nat.le_refl _) H1.out.2.2.2.2.2 (Nat.le_refl _) hmd3 dA2 hgE3 dR2 (by omega) (by omega) (by omega) (by omega) HP.out.2.2.1 HP.out.2.2.2.1 hA2M)
    clear k0 k1 k2 k3 k4 k5 hMU HX2 vA hmb2 hbb2 hpb2 hgE hmd hKK hBB hCh dA2 dR2 hgE3 hmd3 hKK3 hBB3 hCh3 hkp hbl0 hA2M hpb vA2 hch2
    cases x
    · clear hmb3 hbb3 hpb3 hMU2
      gi_wp2_with fail
      obtain ⟨dA2, dR2, hmb3, hbb3, hpb3, hgE3, hmd3, hKK3, hBB3, hCh3, hkp, hbl0, hpb⟩ := HY.out
      exact ⟨hkp, hbl0, ⟨⟨⟨⟨⟨⟨⟨⟨A2, dA2, hpb.1 (by simp)⟩, ⟨R2, dR2⟩⟩, hmb3⟩, hbb3⟩, hpb3⟩, hgE3⟩, hmd3⟩, hKK3, hBB3⟩, hCh3⟩
    · have k0 := cell_of_row _ _ 0 _ _ _ hmb3
      have k1 := cell_of_row _ _ 1 _ _ _ hmb3
      have k2 := cell_of_row _ _ 2 _ _ _ hmb3
      have k3 := cell_of_row _ _ 3 _ _ _ hmb3
      have k4 := cell_of_row _ _ 4 _ _ _ hmb3
      have k5 := cell_of_row _ _ 0 _ _ _ hpb3
      have k6 := cell_of_row _ _ 0 _ _ _ hbb3
      clear hmb3 hbb3 hpb3
      gi_wp2_with fail
      refine ⟨trivial, ?_⟩
      refine (show CallsIn (Fence.wide.inRound l2) 17 _ _ _ _ _ from (callsIn_wide (n := 17)).2 hMU2.out).mono ?_
      rintro e Z ⟨A3, R3, rfl, dA3, vA3, dR3, hch3⟩
      obtain ⟨dA2, dR2, hmb3, hbb3, hpb3, hgE3, hmd3, hKK3, hBB3, hCh3, hkp, hbl0, hpb⟩ := HY.out
      have hYs := hkp.1
      have hkp2 : Kept V.heap.size Y Z := ⟨hch3.size, fun k hk hx => hch3.block k hx (not_or (by omega) (by omega))⟩
      have hbl2 : Below 0 Y Z := hch3.below (Nat.zero_le _) (fun k hk => by omega)
      have HZ := Lib.hid (show Kept V.heap.size X Z ∧ Below 0 X Z ∧ ((((((((∃ A, Dk Z (s1 + 1) n A ∧ dv A n = bv al ^ bn (pre ++ [true]) % M) ∧ (∃ R, Dk Z br nr R)) ∧ Blk Z w.heap.size 56 (mdc mx ml mc bf bl br n nr up)) ∧ Blk Z s1 54 #[.slice (some ⟨g, 0, none⟩) n n]) ∧ Blk Z (s1 + 1 + 1) 54 #[.slice (some ⟨s1 + 1, 0, none⟩) n n]) ∧ Dk Z g NB E) ∧ Md Z bf bl n M) ∧ (Blk Z K 22 #[.slice x0 (dz nl).length c0] ∧ Bto V.heap.size Z (.slice x0 (dz nl).length c0) (dz nl))) ∧ Chg (fun k => k = br ∨ w.heap.size ≤ k) w Z from
        ⟨hkp.trans hkp2, hbl0.trans hbl2, ⟨⟨⟨⟨⟨⟨⟨⟨A3, dA3, by rw [vA3]; exact hpb.2 (by simp)⟩, ⟨R3, dR3⟩⟩, hmb3.chg hch3 (not_or (by omega) (by omega))⟩, hbb3.chg hch3 (not_or (by omega) (by omega))⟩, hpb3.chg hch3 (not_or (by omega) (by omega))⟩, hgE3.chg hch3 (not_or (by omega) (by omega))⟩, hmd3.chg hch3 (not_or (by omega) (fun e => HP.out.2.2.1 e.symm)) (not_or (by omega) (fun e => HP.out.2.2.2.1 e.symm))⟩, hKK3.chg hch3 (not_or (by omega) (by omega)), KeepB.out Y Z hch3 hBB3⟩, hCh3.trans hch3 (fun k hk e => by omega)⟩)
      clear dA2 dR2 hmb3 hbb3 hpb3 hgE3 hmd3 hKK3 hBB3 hCh3 hkp hbl0 hpb hkp2 hbl2 dA3 vA3 dR3 hch3 k0 k1 k2 k3 k4 k5 k6
      gi_wp2_with fail
      exact HZ.out
  case done =>
    rintro D xs X hD rfl ⟨⟨⟨⟨⟨⟨⟨⟨⟨A, dA, vA⟩, ⟨R, dR⟩⟩, hmb2⟩, hbb2⟩, hpb2⟩, hgE⟩, hmd⟩, hKK, hBB⟩, hCh⟩ hKD
    rename_i K1 hK1
    refine hK1 _ _ ?_
    clear hK1 K1
    have hXl := hpb2.lt
    have hXm := hmb2.lt
    have hAM : dv A n < M := by rw [vA]; exact Nat.mod_lt _ (by have := HP.out.2.2.2.2; omega)
    have k0 := cell_of_row _ _ 0 _ _ _ hmb2
    have k1 := cell_of_row _ _ 1 _ _ _ hmb2
    have k2 := cell_of_row _ _ 2 _ _ _ hmb2
    have k3 := cell_of_row _ _ 3 _ _ _ hmb2
    have k4 := cell_of_row _ _ 4 _ _ _ hmb2
    have k5 := cell_of_row _ _ 0 _ _ _ hpb2
    have HX2 := Lib.hid (And.intro vA (And.intro hmb2 (And.intro hpb2 (And.intro hmd (And.intro hCh (And.intro hKD (And.intro dA hAM)))))))
    clear vA hmb2 hbb2 hpb2 hgE hmd hKK hBB hCh dA dR hAM hKD
    go_wp2_with fail
    refine wp_noPanic ?_
    have hS0 : X.drew.cell? ⟨w.heap.size, 0, none⟩ = some (.slice mx ml mc) ∧ X.drew.cell? ⟨w.heap.size, 1, none⟩ = some (.slice (some ⟨bf, 0, none⟩) n n) ∧ X.drew.cell? ⟨w.heap.size, 2, none⟩ = some (.int .i64 up) ∧ X.drew.cell? ⟨w.heap.size, 3, none⟩ = some (.slice (some ⟨bl, 0, none⟩) n n) ∧ X.drew.cell? ⟨w.heap.size, 4, none⟩ = some (.slice (some ⟨br, 0, none⟩) nr nr) ∧ X.drew.cell? ⟨s1 + 1 + 1, 0, none⟩ = some (.slice (some ⟨s1 + 1, 0, none⟩) n n) := ⟨k0, k1, k2, k3, k4, k5⟩
    have hDN := Lib.hid (down_any mx ml mc bf bl br n nr up M M0 (s1 + 1) n n A X.drew (Nat.le_refl _) hup HP.out.2.1 HX2.out.2.2.2.1 HX2.out.2.2.2.2.2.2.1 HX2.out.2.2.2.2.2.2.2)
    clear k0 k1 k2 k3 k4 k5
    refine wp_region_held_drew (S := fun w' => w'.cell? ⟨w.heap.size, 0, none⟩ = some (.slice mx ml mc) ∧ w'.cell? ⟨w.heap.size, 1, none⟩ = some (.slice (some ⟨bf, 0, none⟩) n n) ∧ w'.cell? ⟨w.heap.size, 2, none⟩ = some (.int .i64 up) ∧ w'.cell? ⟨w.heap.size, 3, none⟩ = some (.slice (some ⟨bl, 0, none⟩) n n) ∧ w'.cell? ⟨w.heap.size, 4, none⟩ = some (.slice (some ⟨br, 0, none⟩) nr nr) ∧ w'.cell? ⟨s1 + 1 + 1, 0, none⟩ = some (.slice (some ⟨s1 + 1, 0, none⟩) n n)) (by as_aux_lemma => kernel_rfl) hS0 (fun hHeld => ?_)
    simp only [List.size_toArray, List.length_cons, List.length_nil, Nat.reduceAdd, Array.replicate_succ, Array.replicate_zero, List.push_toArray, List.nil_append, List.cons_append]
    refine wpAnyH_take (i := 0) (oi := { dst := some 31, op := Op.fieldAddr 56 (Operand.tmp 3) 0, type := 0, pos := "modulus.go:71", after := #[], guard := none }) (v := ?vq0) rfl (by as_aux_lemma => kernel_rfl) (by as_aux_lemma => kernel_rfl) (by as_aux_lemma => kernel_rfl) (fun _ _ _ h => h) (Or.inl ⟨by rfl, ?yq0⟩) (by assumption) ?rq0
    case yq0 => (intro w hSw; (try dsimp only at hSw); obtain ⟨q0, q1, q2, q3, q4, q5⟩ := hSw; go_simp <;> with_reducible rfl)
    simp only [Act.put, List.setIfInBounds_toArray, List.set_cons_zero, List.set_cons_succ]
    refine wpAnyH_take (i := 1) (oi := { dst := some 32, op := Op.load 53 (Operand.tmp 31), type := 53, pos := "modulus.go:71", after := #[{ on := 0, ground := Ground.data }], guard := none }) (v := ?vq1) rfl (by as_aux_lemma => kernel_rfl) (by as_aux_lemma => kernel_rfl) (by as_aux_lemma => kernel_rfl) (fun _ _ _ h => h) (Or.inl ⟨by rfl, ?yq1⟩) (by assumption) ?rq1
    case yq1 => (intro w hSw; (try dsimp only at hSw); obtain ⟨q0, q1, q2, q3, q4, q5⟩ := hSw; go_simp <;> with_reducible rfl)
    simp only [Act.put, List.setIfInBounds_toArray, List.set_cons_zero, List.set_cons_succ]
    refine wpAnyH_take (i := 2) (oi := { dst := some 33, op := Op.load 56 (Operand.tmp 3), type := 56, pos := "modulus.go:71", after := #[], guard := none }) (v := ?vq2) rfl (by as_aux_lemma => kernel_rfl) (by as_aux_lemma => kernel_rfl) (by as_aux_lemma => kernel_rfl) (fun _ _ _ h => h) (Or.inl ⟨by rfl, ?yq2⟩) (by assumption) ?rq2
    case yq2 => (intro w hSw; (try dsimp only at hSw); obtain ⟨q0, q1, q2, q3, q4, q5⟩ := hSw; go_simp <;> with_reducible rfl)
    simp only [Act.put, List.setIfInBounds_toArray, List.set_cons_zero, List.set_cons_succ]
    refine wpAnyH_take (i := 3) (oi := { dst := some 34, op := Op.load 54 (Operand.tmp 8), type := 54, pos := "modulus.go:71", after := #[], guard := none }) (v := ?vq3) rfl (by as_aux_lemma => kernel_rfl) (by as_aux_lemma => kernel_rfl) (by as_aux_lemma => kernel_rfl) (fun _ _ _ h => h) (Or.inl ⟨by rfl, ?yq3⟩) (by assumption) ?rq3
    case yq3 => (intro w hSw; (try dsimp only at hSw); obtain ⟨q0, q1, q2, q3, q4, q5⟩ := hSw; go_simp <;> with_reducible rfl)
    simp only [Act.put, List.setIfInBounds_toArray, List.set_cons_zero, List.set_cons_succ]
    refine wpAnyH_ready (rs := [4]) (by as_aux_lemma => kernel_rfl) (by simp) ?_
    refine AllReadyH.cons (o := { dst := some 35, op := Op.call { callee := Callee.value (Operand.func 44), args := #[Operand.tmp 33, Operand.tmp 34], argTypes := #[56, 54] }, type := 54, pos := "modulus.go:71", after := #[{ on := 2, ground := Ground.data }, { on := 3, ground := Ground.data }], guard := none }) rfl (fun K hK => ?_) (by exact AllReadyH.nil)
    rw [if_pos (by rfl)]
    go_simp
    (go_at_call 44; refine hDN.out.mono ?_; rintro e w5 ⟨b5, E5, rfl, d5, v5, hb5'⟩)
    have hb5 : Below X.heap.size X w5 := ⟨hb5'.os, hb5'.tape, hb5'.output, hb5'.size, hb5'.block⟩
    have m5 := HX2.out.2.1.keep hb5
    have p5 := HX2.out.2.2.1.keep hb5
    have HS5 := Lib.hid (show w5.cell? ⟨w.heap.size, 0, none⟩ = some (.slice mx ml mc) ∧ w5.cell? ⟨w.heap.size, 1, none⟩ = some (.slice (some ⟨bf, 0, none⟩) n n) ∧ w5.cell? ⟨w.heap.size, 2, none⟩ = some (.int .i64 up) ∧ w5.cell? ⟨w.heap.size, 3, none⟩ = some (.slice (some ⟨bl, 0, none⟩) n n) ∧ w5.cell? ⟨w.heap.size, 4, none⟩ = some (.slice (some ⟨br, 0, none⟩) nr nr) ∧ w5.cell? ⟨s1 + 1 + 1, 0, none⟩ = some (.slice (some ⟨s1 + 1, 0, none⟩) n n) from ⟨cell_of_row _ _ 0 _ _ _ m5, cell_of_row _ _ 1 _ _ _ m5, cell_of_row _ _ 2 _ _ _ m5, cell_of_row _ _ 3 _ _ _ m5, cell_of_row _ _ 4 _ _ _ m5, cell_of_row _ _ 0 _ _ _ p5⟩)
    have H5 := Lib.hid (And.intro v5 (And.intro hb5 (And.intro m5 p5)))
    have hTL := Lib.hid (told_any mx ml mc b5 n n n E5 w5 hml hn0.2 (Nat.le_refl _) d5)
    clear d5 v5 hb5 hb5' m5 p5
    refine hK.out _ _ (by (try dsimp only); (first | exact hS0 | exact HS5.out | exact HS6.out)) (fun hHeld => ?_)
    clear hK K
    simp only [List.setIfInBounds_toArray, List.set_cons_zero, List.set_cons_succ]
    refine wpAnyH_ready (rs := [5]) (by as_aux_lemma => kernel_rfl) (by simp) ?_
    refine AllReadyH.cons (o := { dst := some 36, op := Op.call { callee := Callee.value (Operand.func 43), args := #[Operand.tmp 32, Operand.tmp 35], argTypes := #[53, 54] }, type := 22, pos := "modulus.go:71", after := #[{ on := 1, ground := Ground.data }, { on := 4, ground := Ground.data }, { on := 4, ground := Ground.chain }], guard := none }) rfl (fun K hK => ?_) (by exact AllReadyH.nil)
    rw [if_pos (by rfl)]
    go_simp
    (go_at_call 43; refine hTL.out.mono ?_; rintro e w6 ⟨⟨v6, rfl, t6⟩, hb6⟩)
    have HS6 := Lib.hid (show w6.cell? ⟨w.heap.size, 0, none⟩ = some (.slice mx ml mc) ∧ w6.cell? ⟨w.heap.size, 1, none⟩ = some (.slice (some ⟨bf, 0, none⟩) n n) ∧ w6.cell? ⟨w.heap.size, 2, none⟩ = some (.int .i64 up) ∧ w6.cell? ⟨w.heap.size, 3, none⟩ = some (.slice (some ⟨bl, 0, none⟩) n n) ∧ w6.cell? ⟨w.heap.size, 4, none⟩ = some (.slice (some ⟨br, 0, none⟩) nr nr) ∧ w6.cell? ⟨s1 + 1 + 1, 0, none⟩ = some (.slice (some ⟨s1 + 1, 0, none⟩) n n) from ⟨cell_of_row _ _ 0 _ _ _ (H5.out.2.2.1.keep hb6), cell_of_row _ _ 1 _ _ _ (H5.out.2.2.1.keep hb6), cell_of_row _ _ 2 _ _ _ (H5.out.2.2.1.keep hb6), cell_of_row _ _ 3 _ _ _ (H5.out.2.2.1.keep hb6), cell_of_row _ _ 4 _ _ _ (H5.out.2.2.1.keep hb6), cell_of_row _ _ 0 _ _ _ (H5.out.2.2.2.keep hb6)⟩)
    have H6 := Lib.hid (And.intro t6 (H5.out.2.1.trans (hb6.mono H5.out.2.1.size)))
    clear t6 hb6
    refine hK.out _ _ (by (try dsimp only); (first | exact hS0 | exact HS5.out | exact HS6.out)) (fun hHeld => ?_)
    clear hK K
    simp only [List.setIfInBounds_toArray, List.set_cons_zero, List.set_cons_succ]
    refine wpAnyH_take (i := 6) (oi := { dst := some 6, op := Op.assign (Operand.tmp 36), type := 22, pos := "modulus.go:71", after := #[{ on := 5, ground := Ground.data }, { on := 5, ground := Ground.chain }, { on := 0, ground := Ground.phase }, { on := 1, ground := Ground.phase }, { on := 2, ground := Ground.phase }, { on := 3, ground := Ground.phase }, { on := 4, ground := Ground.phase }, { on := 5, ground := Ground.phase }], guard := none }) (v := ?vq6) rfl (by as_aux_lemma => kernel_rfl) (by as_aux_lemma => kernel_rfl) (by as_aux_lemma => kernel_rfl) (fun _ _ _ h => h) (Or.inl ⟨by rfl, ?yq6⟩) (by assumption) ?rq6
    case yq6 => (intro w hSw; (try dsimp only at hSw); obtain ⟨q0, q1, q2, q3, q4, q5⟩ := hSw; go_simp <;> with_reducible rfl)
    simp only [Act.put, List.setIfInBounds_toArray, List.set_cons_zero, List.set_cons_succ]
    refine wpAnyH_done (by as_aux_lemma => kernel_rfl) ?_ _
    simp only [noPanic]
    clear hHeld hS0
    go_wp2_with fail
    obtain ⟨t6, hb6⟩ := H6.out
    have hKD := HX2.out.2.2.2.2.2.1
    have hDl : D < X.heap.size := (Array.getElem?_eq_some_iff.1 hKD).1
    have hKD6 := (hb6.block D hDl).trans hKD
    have hwX := HX2.out.2.2.2.2.1.size
    refine ⟨by simp, .inl ⟨_, _, rfl, run_takeDeferred hKD6, ?_⟩⟩
    have hval : dv E5 n = bv al ^ bv nl % M0 := by
      rw [H5.out.1, HX2.out.1, bn_bits nl H0.out.2.2.2.2.2.1, ← HP.out.2.1, Nat.mod_mul_right_mod]
    rw [hval] at t6
    have hpt := bto_put t6 hKD6 (.deferred none)
    have hps : (w6.putObj D (.deferred none)).heap.size = w6.heap.size := by simp
    refine ⟨_, results_tmp rfl _ _ _, _, rfl, by rw [hps]; exact hpt, ?_⟩
    have h1 := HX2.out.2.2.2.2.1.trans (Chg.new (M := fun _ => False) hb6) (fun _ _ h => h.elim)
    have h2 : Chg (fun k => k = br ∨ w.heap.size ≤ k) w (w6.putObj D (.deferred none)) := h1.trans (Chg.of (grownBy_putObj' w6 D (.deferred none))) (fun k hk e => by injection e with e; omega)
    exact h2.mono (fun k hk h => h.elim id (fun h => by omega))
  case stop =>
    rintro D c pre X _ _ h _
    exact h.elim
end Go.Proofs.YtjkniebedgiclaaDoor
