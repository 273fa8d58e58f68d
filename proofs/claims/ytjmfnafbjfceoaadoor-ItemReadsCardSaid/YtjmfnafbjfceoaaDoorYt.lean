/- item: made of the reader's items, where a piece or an item is wrong. -/
import Derived.Test.YtjmfnafbjfceoaaDoorYj
import Derived.Test.YtjmfnafbjfceoaaDoorQk
namespace Go.Proofs.YtjmfnafbjfceoaaDoor
open Go.RowKit Go.Shelf
set_option linter.unusedSimpArgs false
attribute [local irreducible] lb wdG byA byC heL nuL
attribute [local go_sem] Oper.semAt_some
set_option maxRecDepth 100000 in
set_option maxHeartbeats 8000000 in
theorem made_fail (R R2 B M NB : Nat) (d : Int) (kd : Nat → Nat) (bd rs : Nat → List Nat) (v0 : Value) (ts : List It) (w : World) (hB : B ≤ R) (hgR : 0 < R) (hRR : R < R2) (hN : ts.length ≤ 4096)
    (hR : RB w R v0 d M) (hR2 : RB w R2 v0 d M) (hv : Bt B w v0 (rs 0)) (hH : HD w) (hP : ∀ i, i < NB → cutS (rs i) = some (kd i, bd i, rs (i + 1))) (hE : NB = ts.length + 1 ∨ NB = ts.length ∧ rs ts.length ≠ [] ∧ cutS (rs ts.length) = none)
    (hI : ∀ (i : Nat) t y c X, ts[i]? = some t → Below R w X → RB X R v0 d M → Bt B X (.slice y (bd i).length c) (bd i) → Calls Tryd.prog 75 #[.agg #[.int .i64 (kd i : Nat), .slice y (bd i).length c], .pointer (some ⟨R, 0, none⟩)] X fun e w' => ∃ v, e = .returned v ∧ ItP (fun b => X.heap.size ≤ b) w' t v ∧ Below X.heap.size X w')
    (hF : ∀ y c X, ts.length < NB → Below R w X → RB X R v0 d M → Bt B X (.slice y (bd ts.length).length c) (bd ts.length) → Calls Tryd.prog 75 #[.agg #[.int .i64 (kd ts.length : Nat), .slice y (bd ts.length).length c], .pointer (some ⟨R, 0, none⟩)] X fun e w' => e = .panicked ch160 ∧ Below X.heap.size X w') :
    Calls Tryd.prog 73 #[.func (.func 84) #[] #[.pointer (some ⟨R2, 0, none⟩)], .func (.func 75) #[] #[.pointer (some ⟨R, 0, none⟩)]] w fun e w' => e = .panicked ch160 ∧ Below R w w' := by
  refine (callsIn_wide (n := 20)).1 ?_
  refine callsIn_of_wpF Tryd.func73 rfl ?_
  simp only [Tryd.ntmps73, List.size_toArray, List.length_cons, List.length_nil, Nat.reduceAdd, Nat.reduceSub, Array.replicate_succ, Array.replicate_zero, List.push_toArray, List.append_toArray, List.nil_append, List.cons_append]
  refine WpF.seq (WpF.of ((wpIn_wide (n := 20)).2 ?_))
  go_wp2_with fail
  refine WpF.seq (WpF.of ((wpIn_wide (n := 20)).2 ?_))
  go_wp2_with fail
  refine WpF.seq (WpF.seq (WpF.of ((wpIn_wide (n := 20)).2 ?_)))
  go_wp2_with fail
  refine WpF.blockP ?_
  have hR2l := hR2.lt
  have hWb := balloc (balloc (Below.refl w.heap.size w) (.cells #[.func (.func 75) #[] #[.pointer (some ⟨R, 0, none⟩)]] 123)) (.cells #[.slice none 0 0] 23)
  have hRb := hR.keep hWb
  have hR2b := hR2.keep hWb
  have hvb := hv.new hWb
  have hHb := hH.keep hWb
  have hO1 := (Blk.new w 123 #[.func (.func 75) #[] #[.pointer (some ⟨R, 0, none⟩)]]).alloc (.cells #[.slice none 0 0] 23)
  have hL1 := Blk.newS w (.cells #[.func (.func 75) #[] #[.pointer (some ⟨R, 0, none⟩)]] 123) 23 #[.slice none 0 0]
  have hsz : ((w.alloc (.cells #[.func (.func 75) #[] #[.pointer (some ⟨R, 0, none⟩)]] 123)).alloc (.cells #[.slice none 0 0] 23)).heap.size = w.heap.size + 2 := by simp
  obtain ⟨W0, hW0⟩ : ∃ W0, ((w.alloc (.cells #[.func (.func 75) #[] #[.pointer (some ⟨R, 0, none⟩)]] 123)).alloc (.cells #[.slice none 0 0] 23)) = W0 := ⟨_, rfl⟩
  rw [hW0] at hRb hR2b hvb hHb hO1 hL1 hWb hsz ⊢
  clear hW0
  obtain ⟨O, hO⟩ : ∃ O, w.heap.size = O := ⟨_, rfl⟩
  rw [hO] at hR2l hsz ⊢
  have hWR : Below R w W0 := hWb.mono (by omega)
  have hM0 : MQ R R2 O v0 d M ts w W0 [] W0 := ⟨hRb, by rw [← hO]; exact hO1, ⟨none, 0, [], by rw [← hO]; exact hL1, World.ownsRow_nil _ _ _ _, rfl, by simp, fun i t v _ h => by simp at h⟩, Below.refl R W0, by omega, by omega, by simp, hO, grown_of R2 hWb⟩
  have HO := Lib.hid hO
  have HI := Lib.hid hI
  have HF := Lib.hid hF
  have HSZ := Lib.hid hsz
  have hstay : StayM (fun k => k = R2 ∨ k = W0.heap.size ∨ k = W0.heap.size + 1) (MQ R R2 O v0 d M ts w W0) := by rw [hsz]; exact MQ.stay hRR hR2l
  clear hI hF hRb hO1 hL1 hR hR2 hv hH hO
  refine wpF_rangeF (n := 20 - 1) (nb := 20 - 1 - 1) Tryd.func73 (gf := 84) (lb := #[.pointer (some ⟨R2, 0, none⟩)]) rfl (enters_of Tryd.func84 (by kernel_rfl) rfl)
    (pieces_seqF (20 - 1) R2 R B M ts.length NB d kd bd rs v0 (by omega) W0 (by have := hWb.size; omega) (by omega) hB hgR hR2b hvb hHb hP hE) (Below.refl _ _) (by have := hWb.size; omega) (fun k h => by omega) (fun _ => rfl)
    (MQ R R2 O v0 d M ts w W0) (fun Y => Below R w Y) hstay (fun pre X Y row h hg hr => (hWR.trans h.2.2.2.1).grown hg (Nat.le_trans (by have := HO.out; omega) (hWR.trans h.2.2.2.1).size) (fun r e => by have := hWb.size; rcases hr r e with h | h | h <;> omega)) hM0
    (fun x a' X => ∃ g k y m c, (x = .agg #[.int .i64 (k : Nat), .slice y m c] ∧ O + 3 < g ∧ a' = { tmps := #[.func (.func 84) #[] #[.pointer (some ⟨R2, 0, none⟩)], .func (.func 75) #[] #[.pointer (some ⟨R, 0, none⟩)], undef, .pointer (some ⟨O, 0, none⟩), .slice none 0 0, .pointer (some ⟨O + 1, 0, none⟩), .pointer (some ⟨g, 0, none⟩), .func (.func 84) #[] #[.pointer (some ⟨R2, 0, none⟩)], .agg #[.int .i64 (k : Nat), .slice y m c], undef, undef, undef, undef, undef, undef, undef, undef, undef], defers := [] }) ∧ Blk X g 73 #[.int .i64 (k : Nat), .slice y m c])
    (fun x a' _ X Y row h hg hr => by obtain ⟨g, k, y, m, c, h1, h2⟩ := h; exact ⟨g, k, y, m, c, h1, h2.kept hg (fun e => by have := hr _ e.symm; have := h1.2.1; have := HSZ.out; omega)⟩)
    ?assign ?body ?done
  case assign =>
    rintro l2 pre x X K ⟨hpre, y, c, rfl, hb⟩ hll hi hK
    obtain ⟨_, _, _, _, h8, h9, _⟩ := id hi
    have hRX : R ≤ X.heap.size := by omega
    have HK := Lib.hid (And.intro hll hK)
    clear hpre hb hll hK
    gi_wp2_with fail
    exact HK.out.2 _ _ (KeptM.alloc _ _ _) ((Below.refl R X).alloc hRX _) (hstay.alloc _ hi) ⟨X.heap.size, _, y, _, c, ⟨rfl, by have := HK.out.1; have := HSZ.out; omega, rfl⟩, Blk.new _ _ _⟩
  case done =>
    intro D X hD hip hK
    refine ⟨by simp, .inl ⟨_, _, rfl, run_takeDeferred hK, ?_⟩⟩
    exact ⟨rfl, hip.trans (below_put X _ (by have := hWb.size; omega))⟩
  case body =>
    rintro l2 pre x a' X hl2 ⟨hpre, y0, c0, hx, hb⟩ hlo hi ⟨g, k, y, m, c, ⟨rfl, hg3, rfl⟩, hG⟩
    obtain ⟨h2, h3, ⟨xl, cl, vs, h4, h5, h6, h6', h6''⟩, h7, h8, h9, h10, h11, h12⟩ := hi
    simp only [Value.agg.injEq, Array.mk.injEq, List.cons.injEq, Value.int.injEq, Value.slice.injEq, and_true, true_and, Int.natCast_inj] at hx
    obtain ⟨rfl, rfl, rfl, rfl⟩ := hx
    by_cases hpl : pre.length < ts.length
    · obtain ⟨t, ht⟩ : ∃ t, ts[pre.length]? = some t := ⟨ts[pre.length], by simp [hpl]⟩
      have hXs : O + 4 ≤ X.heap.size := by obtain ⟨r, hr⟩ := hlo; have := (Array.getElem?_eq_some_iff.1 hr).1; have := HSZ.out; omega
      have hcall : ∀ Y, Below X.heap.size X Y → Calls Tryd.prog 75 #[.agg #[.int .i64 (kd pre.length : Nat), .slice y (bd pre.length).length c], .pointer (some ⟨R, 0, none⟩)] Y fun e w' => ∃ v, e = .returned v ∧ ItP (fun b => Y.heap.size ≤ b) w' t v ∧ Below Y.heap.size Y w' := fun Y hY =>
        HI.out pre.length t y c Y ht (hWR.trans (h7.trans (hY.mono (by omega)))) (h2.keep hY) ((hb.below hB h7).new hY)
      have HCall := Lib.hid hcall
      have HX := Lib.hid (And.intro h2 (And.intro h3 (And.intro h4 (And.intro h5 (And.intro h6 (And.intro h6' (And.intro h6'' (And.intro h7 h12))))))))
      have HP := Lib.hid (And.intro hpl (And.intro hXs ht))
      have hLl : O + 1 < X.heap.size := h4.lt
      have hOl : O < X.heap.size := h3.lt
      have hGl : g < X.heap.size := hG.lt
      have HC0 := Lib.hid (show X.cell? ⟨O + 1, 0, none⟩ = some (.slice xl pre.length cl) ∧ X.cell? ⟨O, 0, none⟩ = some (.func (.func 75) #[] #[.pointer (some ⟨R, 0, none⟩)]) ∧ X.cell? ⟨g, 0, none⟩ = some (.int .i64 (kd pre.length : Nat)) ∧ X.cell? ⟨g, 1, none⟩ = some (.slice y (bd pre.length).length c) from ⟨cell_of_row _ _ 0 _ _ _ h4, cell_of_row _ _ 0 _ _ _ h3, cell_of_row _ _ 0 _ _ _ hG, cell_of_row _ _ 1 _ _ _ hG⟩)
      obtain ⟨k, hk⟩ : ∃ k, kd pre.length = k := ⟨_, rfl⟩
      obtain ⟨m, hm⟩ : ∃ m, (bd pre.length).length = m := ⟨_, rfl⟩
      rw [hk, hm] at HCall HC0
      rw [hk, hm]
      clear hcall hb h2 h3 h4 h5 h6 h6' h6'' h7 h12 hG hlo hpre hpl ht
      gi_wp2_with fail
      refine wpIn_region_round l2 (by kernel_rfl) (by kernel_rfl) ?_
      refine any_gen 10 #[false, false, false, false, false, false, false, false, false, false] rfl rfl (fun ops Q hops hQ => ?_)
      have Hops := Lib.hid hops.out
      have h0 := congrArg (fun o : Array Oper => o[0]?) hops.out.symm
      have h1 := congrArg (fun o : Array Oper => o[1]?) hops.out.symm
      have h2 := congrArg (fun o : Array Oper => o[2]?) hops.out.symm
      have h3 := congrArg (fun o : Array Oper => o[3]?) hops.out.symm
      have h4 := congrArg (fun o : Array Oper => o[4]?) hops.out.symm
      have h5 := congrArg (fun o : Array Oper => o[5]?) hops.out.symm
      have h6 := congrArg (fun o : Array Oper => o[6]?) hops.out.symm
      have h7 := congrArg (fun o : Array Oper => o[7]?) hops.out.symm
      have h8 := congrArg (fun o : Array Oper => o[8]?) hops.out.symm
      have h9 := congrArg (fun o : Array Oper => o[9]?) hops.out.symm
      simp only [List.getElem?_toArray, List.getElem?_cons_zero, List.getElem?_cons_succ] at h0 h1 h2 h3 h4 h5 h6 h7 h8 h9
      clear hops
      have s_012345 : ∀ (Y : World) (Z : Nat) (c1 : Bool) (x1 : Option Addr) (n1 d1 : Nat) (y1 : Option Addr) (m1 e1 : Nat), Below X.heap.size X Y → Blk Y Z 25 #[.bool false, .slice none 0 0, .slice none 0 0] → X.heap.size ≤ Z → ItP (fun b => X.heap.size ≤ b) Y t (itW c1 x1 n1 d1 y1 m1 e1) → wpAnyIn Fence.wide (20 - 1 - 1) Tryd.prog .any ops Q 4 #[true, true, true, true, true, true, false, false, false, false] { tmps := #[.func (.func 84) #[] #[.pointer (some ⟨R2, 0, none⟩)], .func (.func 75) #[] #[.pointer (some ⟨R, 0, none⟩)], undef, .pointer (some ⟨O, 0, none⟩), .slice none 0 0, .pointer (some ⟨O + 1, 0, none⟩), .pointer (some ⟨g, 0, none⟩), .func (.func 84) #[] #[.pointer (some ⟨R2, 0, none⟩)], .agg #[.int .i64 (k : Nat), .slice y m c], .slice xl pre.length cl, .func (.func 75) #[] #[.pointer (some ⟨R, 0, none⟩)], .agg #[.int .i64 (k : Nat), .slice y m c], itW c1 x1 n1 d1 y1 m1 e1, .int .i64 (pre.length : Nat), .slice (some ⟨Z, 0, none⟩) 1 1, undef, undef, undef], defers := [] } Y := by
        intro Y Z c1 x1 n1 d1 y1 m1 e1 hXY hZ hZX hI
        obtain ⟨g2, g3, g4, g5, g6, g6', g6'', g7, g12⟩ := HX.out
        obtain ⟨hpl, hXs, ht⟩ := HP.out
        have h5Y := g5.kept (grown_new hXY) (by cases hv : (Value.slice xl pre.length cl).ownBlock <;> simp)
        obtain ⟨i0, hi0, hz0, hz1, hz2⟩ := info_parts' infoIt
        have hu : Tryd.prog.underlying 23 = some (.slice 25) := by kernel_rfl
        have hnews : ∀ (j : Nat) u, ([.bool false, .slice none 0 0, .slice none 0 0] : List Value)[j]? = some u → Y.cell? ((⟨Z, 0, none⟩ : Addr).add j) = some u := fun j u hj => by
          rw [Go.WideShapes.add_plain, Nat.zero_add, cell_of_row Y Z j _ _ _ hZ]
          exact (Array.getElem?_toList ..).symm.trans hj
        have hYs := hXY.size
        obtain ⟨v', w5, hrun, hown5, hg5, _, hat⟩ := run_append_own_at (P := Tryd.prog) (w := Y) (O + 4) 23 23 25 i0 (itW false none 0 0 none 0 0) 3 56 hu hi0 hz0 hz1 hz2 rfl (by decide) _ pre.length (vs.flatMap v3) h5Y ⟨Z, 0, none⟩ 1 1 [.bool false, .slice none 0 0, .slice none 0 0] rfl hnews (by intro u hu; simp at hu; rcases hu with rfl | rfl | rfl <;> rfl) (by unfold maxLen; omega) (by omega) (by omega)
        obtain ⟨gn, cn, rfl⟩ := Go.Joins.ownsRow_form hown5 (by omega)
        have hgl := hown5.lt gn rfl
        have hgn : (Value.slice xl pre.length cl).ownBlock = some gn ∨ gn = Y.heap.size := hat.elim (fun h => .inl h.symm) (fun h => .inr (by injection h))
        have hold : ∀ b, (Value.slice xl pre.length cl).ownBlock = some b → O + 4 ≤ b ∧ b < X.heap.size := fun b h => g5.lt b h
        have hIall : ∀ (i : Nat) t v, ts[i]? = some t → (vs ++ [itW c1 x1 n1 d1 y1 m1 e1])[i]? = some v → ItP (fun b => O + 4 ≤ b ∧ b ≠ gn ∧ (Value.slice xl pre.length cl).ownBlock ≠ some b) w5 t v := fun i u v hu hv => by
          by_cases hi : i < vs.length
          · rw [List.getElem?_append_left hi] at hv
            refine ItP.grown (((g6'' i u v hu hv).new hXY).mono (N := fun b => O + 4 ≤ b ∧ b ≠ gn ∧ (Value.slice xl pre.length cl).ownBlock ≠ some b) fun b h hb => ⟨h.1, fun e => ?_, h.2⟩) hg5 (fun r e h => h.2.2 e)
            subst e
            rcases hgn with h1 | h1
            · exact h.2 h1
            · omega
          · by_cases hi2 : i = vs.length
            · subst hi2
              rw [List.getElem?_append_right (Nat.le_refl _), Nat.sub_self] at hv
              simp only [List.getElem?_cons_zero, Option.some.injEq] at hv
              subst hv
              rw [g6, ht] at hu
              cases hu
              refine ItP.grown (hI.mono (N := fun b => O + 4 ≤ b ∧ b ≠ gn ∧ (Value.slice xl pre.length cl).ownBlock ≠ some b) fun b h hb => ⟨by omega, fun e => ?_, fun e => by have := hold b e; omega⟩) hg5 (fun r e h => h.2.2 e)
              subst e
              rcases hgn with h1 | h1
              · have := hold _ h1; omega
              · omega
            · rw [List.getElem?_eq_none (by simp; omega)] at hv; cases hv
        have hlenA : (vs.flatMap v3).length = pre.length * 3 := by rw [v3_len vs g6', g6]
        have hz : ∀ W : World, W.ownsRow (O + 4) 25 3 (.slice (some ⟨gn, 0, none⟩) (pre.length + 1) cn) (pre.length + 1) (vs.flatMap v3 ++ [.bool false, .slice none 0 0, .slice none 0 0]) →
            (W.cell? ⟨gn, pre.length * 3, none⟩ = some (.bool false) ∧ W.cell? ⟨gn, pre.length * 3 + 1, none⟩ = some (.slice none 0 0) ∧ W.cell? ⟨gn, pre.length * 3 + 2, none⟩ = some (.slice none 0 0)) ∧ ∀ j, W.frozen? ⟨gn, j, none⟩ = false := fun W h => by
          refine ⟨⟨?_, ?_, ?_⟩, fun j => h.frozenAt j⟩
          · rw [h.cellAt _ (by omega), List.getElem?_append_right (by omega), hlenA, Nat.sub_self]; rfl
          · rw [h.cellAt _ (by omega), List.getElem?_append_right (by omega), hlenA, show pre.length * 3 + 1 - pre.length * 3 = 1 by omega]; rfl
          · rw [h.cellAt _ (by omega), List.getElem?_append_right (by omega), hlenA, show pre.length * 3 + 2 - pre.length * 3 = 2 by omega]; rfl
        have h4w := (Blk.keep g4 hXY).kept hg5 (fun e => by have := hold (O + 1) e.symm; omega)
        refine wpAnyIn_ready (rs := [6]) (by rw [← Hops.out]; kernel_rfl) (by simp) ?_
        refine AllReadyIn.cons h6 (fun K hK => ?_) AllReadyIn.nil
        simp only [List.setIfInBounds_toArray, List.set_cons_zero, List.set_cons_succ] at hK
        rw [if_pos (by rfl)]
        refine wpIn_append_run (.tmp 9) (.tmp 14) 23 rfl (v := .slice xl pre.length cl) (u := .slice (some ⟨Z, 0, none⟩) 1 1) rfl rfl hrun ?_
        refine hK _ _ ?_
        clear hK K
        have hlt : (pre.length : Int) < (pre.length : Int) + 1 := by omega
        have hlt0 : ¬ (pre.length : Int) < 0 := by omega
        have hne : gn ≠ O + 1 := by omega
        have hsO := HSZ.out
        have finish : ∀ Wb : World, (∃ Wa r1 r2, w5.grownBy Wa (some r1) ∧ Wa.grownBy Wb (some r2) ∧ (r1 = gn ∨ r1 = O + 1) ∧ (r2 = gn ∨ r2 = O + 1)) →
            Wb.ownsRow (O + 4) 25 3 (.slice (some ⟨gn, 0, none⟩) (pre.length + 1) cn) (pre.length + 1) (vs.flatMap v3 ++ [.bool c1, .slice x1 n1 d1, .slice y1 m1 e1]) → Blk Wb (O + 1) 23 #[.slice (some ⟨gn, 0, none⟩) (pre.length + 1) cn] →
            KeptM (fun k => k = R2 ∨ k = W0.heap.size ∨ k = W0.heap.size + 1) X Wb ∧ Below R X Wb ∧ MQ R R2 O v0 d M ts w W0 (pre ++ [.agg #[.int .i64 (k : Nat), .slice y m c]]) Wb := fun Wb ⟨Wa, r1, r2, ga, gb, hr1, hr2⟩ hown hbox => by
          have hsa := ga.size
          have hs5 := hg5.size
          have kA : KeptM (fun k => k = R2 ∨ k = W0.heap.size ∨ k = W0.heap.size + 1) X Wb := ((((KeptM.new hXY).trans (KeptM.grown hg5 (fun r e h => by have := (hold r e).1; rcases h with h | h | h <;> omega))).trans (KeptM.grown ga (fun r e h => by cases e; rcases h with h | h | h <;> rcases hr1 with h1 | h1 <;> omega))).trans (KeptM.grown gb (fun r e h => by cases e; rcases h with h | h | h <;> rcases hr2 with h1 | h1 <;> omega)))
          have kB : Below R X Wb := (((hXY.mono (by omega)).grown hg5 (by omega) (fun r e => by have := (hold r e).1; omega)).grown ga (by omega) (fun r e => by cases e; rcases hr1 with h1 | h1 <;> omega)).grown gb (by omega) (fun r e => by cases e; rcases hr2 with h1 | h1 <;> omega)
          have kR : RB Wb R v0 d M := (((RB.keep g2 hXY).kept hg5 (fun e => by have := (hold R e.symm).1; omega)).kept ga (fun e => by injection e with e; rcases hr1 with h1 | h1 <;> omega)).kept gb (fun e => by injection e with e; rcases hr2 with h1 | h1 <;> omega)
          have kO := (((Blk.keep g3 hXY).kept hg5 (fun e => by have := (hold O e.symm).1; omega)).kept ga (fun e => by injection e with e; rcases hr1 with h1 | h1 <;> omega)).kept gb (fun e => by injection e with e; rcases hr2 with h1 | h1 <;> omega)
          have hl1 : (pre ++ [Value.agg #[.int .i64 (k : Nat), .slice y m c]]).length = pre.length + 1 := by simp
          refine ⟨kA, kB, kR, kO, ⟨some ⟨gn, 0, none⟩, cn, vs ++ [itW c1 x1 n1 d1 y1 m1 e1], ?_, ?_, ?_, ?_, ?_⟩, g7.trans kB, by have := kB.size; omega, by omega, by rw [hl1]; exact hpl, h11, grown_more (grown_more (grown_more (grown_more g12 (grown_new hXY) (fun _ e => by cases e)) hg5 (fun r e => .inr (by have := (hold r e).1; omega))) ga (fun r e => by cases e; exact .inr (by rcases hr1 with h1 | h1 <;> omega))) gb (fun r e => by cases e; exact .inr (by rcases hr2 with h1 | h1 <;> omega))⟩
          · rw [hl1]; exact hbox
          · rw [hl1, List.flatMap_append]; exact hown
          · rw [hl1, List.length_append, g6]; rfl
          · intro v hv
            rcases List.mem_append.1 hv with h | h
            · exact g6' v h
            · simp only [List.mem_singleton] at h
              exact ⟨c1, x1, n1, d1, y1, m1, e1, h⟩
          · intro i u v hu hv
            refine (ItP.grown (ItP.grown (hIall i u v hu hv) ga (fun r e h => ?_)) gb (fun r e h => ?_)).mono fun b h _ => ⟨h.1, fun e => ?_⟩
            · cases e; obtain ⟨h2, h3, _⟩ := h; rcases hr1 with h1 | h1 <;> omega
            · cases e; obtain ⟨h2, h3, _⟩ := h; rcases hr2 with h1 | h1 <;> omega
            · rw [hl1] at e
              injection e with e
              exact h.2.1 e.symm
        have c5 := hz w5 hown5
        have cB5 : w5.cell? ⟨O + 1, 0, none⟩ = some (.slice xl pre.length cl) := cell_of_row _ _ 0 _ _ _ h4w
        have fB5 := frozen_of_row w5 _ 0 _ _ h4w
        obtain ⟨k50, k51, k52⟩ := c5.1
        have f50 := c5.2 (pre.length * 3)
        have f51 := c5.2 (pre.length * 3 + 1)
        have f52 := c5.2 (pre.length * 3 + 2)
        obtain ⟨o8, g58⟩ := set3_row hlenA hown5 (.bool c1) (.slice x1 n1 d1) (.slice y1 m1 e1)
        have b8 := h4w.kept g58 (fun e => by injection e with e; omega)
        have g59 := grown_set' (grown_refl w5 (O + 1)) 0 (.slice (some ⟨gn, 0, none⟩) (pre.length + 1) cn)
        have o9 := hown5.kept g59 (.inr (fun e => hne (Option.some.inj e)))
        have b9 : Blk (w5.setCell ⟨O + 1, 0, none⟩ (.slice (some ⟨gn, 0, none⟩) (pre.length + 1) cn)) (O + 1) 23 #[.slice (some ⟨gn, 0, none⟩) (pre.length + 1) cn] := heap_setCell_same _ (O + 1) 0 _ _ _ h4w
        obtain ⟨W8, hW8⟩ : ∃ W8, ((w5.setCell ⟨gn, pre.length * 3, none⟩ (.bool c1)).setCell ⟨gn, pre.length * 3 + 1, none⟩ (.slice x1 n1 d1)).setCell ⟨gn, pre.length * 3 + 2, none⟩ (.slice y1 m1 e1) = W8 := ⟨_, rfl⟩
        obtain ⟨W9, hW9⟩ : ∃ W9, w5.setCell ⟨O + 1, 0, none⟩ (.slice (some ⟨gn, 0, none⟩) (pre.length + 1) cn) = W9 := ⟨_, rfl⟩
        rw [hW8] at o8 g58 b8
        rw [hW9] at o9 g59 b9
        have cB8 : W8.cell? ⟨O + 1, 0, none⟩ = some (.slice xl pre.length cl) := cell_of_row _ _ 0 _ _ _ b8
        have fB8 := frozen_of_row W8 _ 0 _ _ b8
        have c9 := hz W9 o9
        obtain ⟨k90, k91, k92⟩ := c9.1
        have f90 := c9.2 (pre.length * 3)
        have f91 := c9.2 (pre.length * 3 + 1)
        have f92 := c9.2 (pre.length * 3 + 2)
        have g89 := grown_set' (grown_refl W8 (O + 1)) 0 (.slice (some ⟨gn, 0, none⟩) (pre.length + 1) cn)
        have F89 := Lib.hid (finish _ ⟨W8, gn, O + 1, g58, g89, .inl rfl, .inr rfl⟩ (o8.kept g89 (.inr (fun e => hne (Option.some.inj e)))) (heap_setCell_same _ (O + 1) 0 _ _ _ b8))
        obtain ⟨o98, g98⟩ := set3_row hlenA o9 (.bool c1) (.slice x1 n1 d1) (.slice y1 m1 e1)
        have F98 := Lib.hid (finish _ ⟨W9, O + 1, gn, g59, g98, .inr rfl, .inl rfl⟩ o98 (b9.kept g98 (fun e => by injection e with e; omega)))
        have HW8 := Lib.hid hW8
        have HW9 := Lib.hid hW9
        clear hW8 hW9 o8 g58 b8 g59 o9 b9 c5 c9 g89 o98 g98 finish hIall hold hgn hgl hat hg5 hown5 hrun h5Y hnews hI hz h4w g2 g3 g4 g5 g6 g6' g6'' g7 g12 hZ hXY
        refine wpAnyIn_ready (rs := [7, 9]) (by rw [← Hops.out]; kernel_rfl) (by simp) ?_
        refine AllReadyIn.cons h7 (fun K hK => ?_) (AllReadyIn.cons h9 (fun K hK => ?_) AllReadyIn.nil)
        · simp only [List.setIfInBounds_toArray, List.set_cons_zero, List.set_cons_succ] at hK
          go_simp
          refine hK _ _ ?_
          clear hK K
          refine wpAnyIn_ready (rs := [8, 9]) (by rw [← Hops.out]; kernel_rfl) (by simp) ?_
          refine AllReadyIn.cons h8 (fun K hK => ?_) (AllReadyIn.cons h9 (fun K hK => ?_) AllReadyIn.nil)
          · simp only [List.setIfInBounds_toArray, List.set_cons_zero, List.set_cons_succ] at hK
            go_simp
            refine hK _ _ ?_
            clear hK K
            rw [HW8.out]
            refine wpAnyIn_ready (rs := [9]) (by rw [← Hops.out]; kernel_rfl) (by simp) ?_
            refine AllReadyIn.cons h9 (fun K hK => ?_) AllReadyIn.nil
            simp only [List.setIfInBounds_toArray, List.set_cons_zero, List.set_cons_succ] at hK
            go_simp
            refine hK _ _ ?_
            clear hK K
            refine wpAnyIn_done (by rw [← Hops.out]; kernel_rfl) ?_ _
            rw [← hQ.out]
            exact ⟨hpl, F89.out⟩
          · simp only [List.setIfInBounds_toArray, List.set_cons_zero, List.set_cons_succ] at hK
            go_simp
            refine hK _ _ ?_
            clear hK K
            rw [HW9.out]
            refine wpAnyIn_ready (rs := [8]) (by rw [← Hops.out]; kernel_rfl) (by simp) ?_
            refine AllReadyIn.cons h8 (fun K hK => ?_) AllReadyIn.nil
            simp only [List.setIfInBounds_toArray, List.set_cons_zero, List.set_cons_succ] at hK
            go_simp
            refine hK _ _ ?_
            clear hK K
            refine wpAnyIn_done (by rw [← Hops.out]; kernel_rfl) ?_ _
            rw [← hQ.out]
            exact ⟨hpl, F98.out⟩
        · simp only [List.setIfInBounds_toArray, List.set_cons_zero, List.set_cons_succ] at hK
          go_simp
          refine hK _ _ ?_
          clear hK K
          rw [HW9.out]
          refine wpAnyIn_ready (rs := [7]) (by rw [← Hops.out]; kernel_rfl) (by simp) ?_
          refine AllReadyIn.cons h7 (fun K hK => ?_) AllReadyIn.nil
          simp only [List.setIfInBounds_toArray, List.set_cons_zero, List.set_cons_succ] at hK
          go_simp
          refine hK _ _ ?_
          clear hK K
          refine wpAnyIn_ready (rs := [8]) (by rw [← Hops.out]; kernel_rfl) (by simp) ?_
          refine AllReadyIn.cons h8 (fun K hK => ?_) AllReadyIn.nil
          simp only [List.setIfInBounds_toArray, List.set_cons_zero, List.set_cons_succ] at hK
          go_simp
          refine hK _ _ ?_
          clear hK K
          refine wpAnyIn_done (by rw [← Hops.out]; kernel_rfl) ?_ _
          rw [← hQ.out]
          exact ⟨hpl, F98.out⟩
      have s_01234 : ∀ (Y : World) (c1 : Bool) (x1 : Option Addr) (n1 d1 : Nat) (y1 : Option Addr) (m1 e1 : Nat), Below X.heap.size X Y → ItP (fun b => X.heap.size ≤ b) Y t (itW c1 x1 n1 d1 y1 m1 e1) → wpAnyIn Fence.wide (20 - 1 - 1) Tryd.prog .any ops Q 5 #[true, true, true, true, true, false, false, false, false, false] { tmps := #[.func (.func 84) #[] #[.pointer (some ⟨R2, 0, none⟩)], .func (.func 75) #[] #[.pointer (some ⟨R, 0, none⟩)], undef, .pointer (some ⟨O, 0, none⟩), .slice none 0 0, .pointer (some ⟨O + 1, 0, none⟩), .pointer (some ⟨g, 0, none⟩), .func (.func 84) #[] #[.pointer (some ⟨R2, 0, none⟩)], .agg #[.int .i64 (k : Nat), .slice y m c], .slice xl pre.length cl, .func (.func 75) #[] #[.pointer (some ⟨R, 0, none⟩)], .agg #[.int .i64 (k : Nat), .slice y m c], itW c1 x1 n1 d1 y1 m1 e1, .int .i64 (pre.length : Nat), undef, undef, undef, undef], defers := [] } Y := by
        intro Y c1 x1 n1 d1 y1 m1 e1 hXY hI
        have cL := (hXY.cell (p := ⟨O + 1, 0, none⟩) hLl).trans HC0.out.1
        have cO := (hXY.cell (p := ⟨O, 0, none⟩) hOl).trans HC0.out.2.1
        have cG0 := (hXY.cell (p := ⟨g, 0, none⟩) hGl).trans HC0.out.2.2.1
        have cG1 := (hXY.cell (p := ⟨g, 1, none⟩) hGl).trans HC0.out.2.2.2
        refine wpAnyIn_ready (rs := [5]) (by rw [← Hops.out]; kernel_rfl) (by simp) ?_
        refine AllReadyIn.cons h5 (fun K hK => ?_) (AllReadyIn.nil)
        · simp only [List.setIfInBounds_toArray, List.set_cons_zero, List.set_cons_succ] at hK
          go_simp
          exact hK _ _ (s_012345 _ Y.heap.size c1 x1 n1 d1 y1 m1 e1 (hXY.trans (balloc (Below.refl _ _) _ |>.mono hXY.size)) (Blk.new _ _ _) hXY.size (hI.new (balloc (Below.refl _ _) _)))
      have s_01235 : ∀ (Y : World) (Z : Nat) (c1 : Bool) (x1 : Option Addr) (n1 d1 : Nat) (y1 : Option Addr) (m1 e1 : Nat), Below X.heap.size X Y → Blk Y Z 25 #[.bool false, .slice none 0 0, .slice none 0 0] → X.heap.size ≤ Z → ItP (fun b => X.heap.size ≤ b) Y t (itW c1 x1 n1 d1 y1 m1 e1) → wpAnyIn Fence.wide (20 - 1 - 1) Tryd.prog .any ops Q 5 #[true, true, true, true, false, true, false, false, false, false] { tmps := #[.func (.func 84) #[] #[.pointer (some ⟨R2, 0, none⟩)], .func (.func 75) #[] #[.pointer (some ⟨R, 0, none⟩)], undef, .pointer (some ⟨O, 0, none⟩), .slice none 0 0, .pointer (some ⟨O + 1, 0, none⟩), .pointer (some ⟨g, 0, none⟩), .func (.func 84) #[] #[.pointer (some ⟨R2, 0, none⟩)], .agg #[.int .i64 (k : Nat), .slice y m c], .slice xl pre.length cl, .func (.func 75) #[] #[.pointer (some ⟨R, 0, none⟩)], .agg #[.int .i64 (k : Nat), .slice y m c], itW c1 x1 n1 d1 y1 m1 e1, undef, .slice (some ⟨Z, 0, none⟩) 1 1, undef, undef, undef], defers := [] } Y := by
        intro Y Z c1 x1 n1 d1 y1 m1 e1 hXY hZ hZX hI
        have cL := (hXY.cell (p := ⟨O + 1, 0, none⟩) hLl).trans HC0.out.1
        have cO := (hXY.cell (p := ⟨O, 0, none⟩) hOl).trans HC0.out.2.1
        have cG0 := (hXY.cell (p := ⟨g, 0, none⟩) hGl).trans HC0.out.2.2.1
        have cG1 := (hXY.cell (p := ⟨g, 1, none⟩) hGl).trans HC0.out.2.2.2
        refine wpAnyIn_ready (rs := [4]) (by rw [← Hops.out]; kernel_rfl) (by simp) ?_
        refine AllReadyIn.cons h4 (fun K hK => ?_) (AllReadyIn.nil)
        · simp only [List.setIfInBounds_toArray, List.set_cons_zero, List.set_cons_succ] at hK
          go_simp
          exact hK _ _ (s_012345 Y Z c1 x1 n1 d1 y1 m1 e1 hXY hZ hZX hI)
      have s_01245 : ∀ (Y : World) (Z : Nat), Below X.heap.size X Y → Blk Y Z 25 #[.bool false, .slice none 0 0, .slice none 0 0] → X.heap.size ≤ Z → wpAnyIn Fence.wide (20 - 1 - 1) Tryd.prog .any ops Q 5 #[true, true, true, false, true, true, false, false, false, false] { tmps := #[.func (.func 84) #[] #[.pointer (some ⟨R2, 0, none⟩)], .func (.func 75) #[] #[.pointer (some ⟨R, 0, none⟩)], undef, .pointer (some ⟨O, 0, none⟩), .slice none 0 0, .pointer (some ⟨O + 1, 0, none⟩), .pointer (some ⟨g, 0, none⟩), .func (.func 84) #[] #[.pointer (some ⟨R2, 0, none⟩)], .agg #[.int .i64 (k : Nat), .slice y m c], .slice xl pre.length cl, .func (.func 75) #[] #[.pointer (some ⟨R, 0, none⟩)], .agg #[.int .i64 (k : Nat), .slice y m c], undef, .int .i64 (pre.length : Nat), .slice (some ⟨Z, 0, none⟩) 1 1, undef, undef, undef], defers := [] } Y := by
        intro Y Z hXY hZ hZX
        have cL := (hXY.cell (p := ⟨O + 1, 0, none⟩) hLl).trans HC0.out.1
        have cO := (hXY.cell (p := ⟨O, 0, none⟩) hOl).trans HC0.out.2.1
        have cG0 := (hXY.cell (p := ⟨g, 0, none⟩) hGl).trans HC0.out.2.2.1
        have cG1 := (hXY.cell (p := ⟨g, 1, none⟩) hGl).trans HC0.out.2.2.2
        refine wpAnyIn_ready (rs := [3]) (by rw [← Hops.out]; kernel_rfl) (by simp) ?_
        refine AllReadyIn.cons h3 (fun K hK => ?_) (AllReadyIn.nil)
        · simp only [List.setIfInBounds_toArray, List.set_cons_zero, List.set_cons_succ] at hK
          go_simp
          refine ⟨trivial, (callsIn_wide.2 (HCall.out Y hXY)).mono ?_⟩
          rintro e wk ⟨v, rfl, hI, hk⟩
          obtain ⟨c1, x1, n1, d1, y1, m1, e1, rfl⟩ := hI.is
          exact hK _ _ (s_012345 wk Z c1 x1 n1 d1 y1 m1 e1 (hXY.trans (hk.mono hXY.size)) (hZ.keep hk) hZX (hI.mono fun b h _ => Nat.le_trans hXY.size h))
      have s_0123 : ∀ (Y : World) (c1 : Bool) (x1 : Option Addr) (n1 d1 : Nat) (y1 : Option Addr) (m1 e1 : Nat), Below X.heap.size X Y → ItP (fun b => X.heap.size ≤ b) Y t (itW c1 x1 n1 d1 y1 m1 e1) → wpAnyIn Fence.wide (20 - 1 - 1) Tryd.prog .any ops Q 6 #[true, true, true, true, false, false, false, false, false, false] { tmps := #[.func (.func 84) #[] #[.pointer (some ⟨R2, 0, none⟩)], .func (.func 75) #[] #[.pointer (some ⟨R, 0, none⟩)], undef, .pointer (some ⟨O, 0, none⟩), .slice none 0 0, .pointer (some ⟨O + 1, 0, none⟩), .pointer (some ⟨g, 0, none⟩), .func (.func 84) #[] #[.pointer (some ⟨R2, 0, none⟩)], .agg #[.int .i64 (k : Nat), .slice y m c], .slice xl pre.length cl, .func (.func 75) #[] #[.pointer (some ⟨R, 0, none⟩)], .agg #[.int .i64 (k : Nat), .slice y m c], itW c1 x1 n1 d1 y1 m1 e1, undef, undef, undef, undef, undef], defers := [] } Y := by
        intro Y c1 x1 n1 d1 y1 m1 e1 hXY hI
        have cL := (hXY.cell (p := ⟨O + 1, 0, none⟩) hLl).trans HC0.out.1
        have cO := (hXY.cell (p := ⟨O, 0, none⟩) hOl).trans HC0.out.2.1
        have cG0 := (hXY.cell (p := ⟨g, 0, none⟩) hGl).trans HC0.out.2.2.1
        have cG1 := (hXY.cell (p := ⟨g, 1, none⟩) hGl).trans HC0.out.2.2.2
        refine wpAnyIn_ready (rs := [4, 5]) (by rw [← Hops.out]; kernel_rfl) (by simp) ?_
        refine AllReadyIn.cons h4 (fun K hK => ?_) (AllReadyIn.cons h5 (fun K hK => ?_) (AllReadyIn.nil))
        · simp only [List.setIfInBounds_toArray, List.set_cons_zero, List.set_cons_succ] at hK
          go_simp
          exact hK _ _ (s_01234 Y c1 x1 n1 d1 y1 m1 e1 hXY hI)
        · simp only [List.setIfInBounds_toArray, List.set_cons_zero, List.set_cons_succ] at hK
          go_simp
          exact hK _ _ (s_01235 _ Y.heap.size c1 x1 n1 d1 y1 m1 e1 (hXY.trans (balloc (Below.refl _ _) _ |>.mono hXY.size)) (Blk.new _ _ _) hXY.size (hI.new (balloc (Below.refl _ _) _)))
      have s_0124 : ∀ (Y : World), Below X.heap.size X Y → wpAnyIn Fence.wide (20 - 1 - 1) Tryd.prog .any ops Q 6 #[true, true, true, false, true, false, false, false, false, false] { tmps := #[.func (.func 84) #[] #[.pointer (some ⟨R2, 0, none⟩)], .func (.func 75) #[] #[.pointer (some ⟨R, 0, none⟩)], undef, .pointer (some ⟨O, 0, none⟩), .slice none 0 0, .pointer (some ⟨O + 1, 0, none⟩), .pointer (some ⟨g, 0, none⟩), .func (.func 84) #[] #[.pointer (some ⟨R2, 0, none⟩)], .agg #[.int .i64 (k : Nat), .slice y m c], .slice xl pre.length cl, .func (.func 75) #[] #[.pointer (some ⟨R, 0, none⟩)], .agg #[.int .i64 (k : Nat), .slice y m c], undef, .int .i64 (pre.length : Nat), undef, undef, undef, undef], defers := [] } Y := by
        intro Y hXY
        have cL := (hXY.cell (p := ⟨O + 1, 0, none⟩) hLl).trans HC0.out.1
        have cO := (hXY.cell (p := ⟨O, 0, none⟩) hOl).trans HC0.out.2.1
        have cG0 := (hXY.cell (p := ⟨g, 0, none⟩) hGl).trans HC0.out.2.2.1
        have cG1 := (hXY.cell (p := ⟨g, 1, none⟩) hGl).trans HC0.out.2.2.2
        refine wpAnyIn_ready (rs := [3, 5]) (by rw [← Hops.out]; kernel_rfl) (by simp) ?_
        refine AllReadyIn.cons h3 (fun K hK => ?_) (AllReadyIn.cons h5 (fun K hK => ?_) (AllReadyIn.nil))
        · simp only [List.setIfInBounds_toArray, List.set_cons_zero, List.set_cons_succ] at hK
          go_simp
          refine ⟨trivial, (callsIn_wide.2 (HCall.out Y hXY)).mono ?_⟩
          rintro e wk ⟨v, rfl, hI, hk⟩
          obtain ⟨c1, x1, n1, d1, y1, m1, e1, rfl⟩ := hI.is
          exact hK _ _ (s_01234 wk c1 x1 n1 d1 y1 m1 e1 (hXY.trans (hk.mono hXY.size)) (hI.mono fun b h _ => Nat.le_trans hXY.size h))
        · simp only [List.setIfInBounds_toArray, List.set_cons_zero, List.set_cons_succ] at hK
          go_simp
          exact hK _ _ (s_01245 _ Y.heap.size (hXY.trans (balloc (Below.refl _ _) _ |>.mono hXY.size)) (Blk.new _ _ _) hXY.size)
      have s_0125 : ∀ (Y : World) (Z : Nat), Below X.heap.size X Y → Blk Y Z 25 #[.bool false, .slice none 0 0, .slice none 0 0] → X.heap.size ≤ Z → wpAnyIn Fence.wide (20 - 1 - 1) Tryd.prog .any ops Q 6 #[true, true, true, false, false, true, false, false, false, false] { tmps := #[.func (.func 84) #[] #[.pointer (some ⟨R2, 0, none⟩)], .func (.func 75) #[] #[.pointer (some ⟨R, 0, none⟩)], undef, .pointer (some ⟨O, 0, none⟩), .slice none 0 0, .pointer (some ⟨O + 1, 0, none⟩), .pointer (some ⟨g, 0, none⟩), .func (.func 84) #[] #[.pointer (some ⟨R2, 0, none⟩)], .agg #[.int .i64 (k : Nat), .slice y m c], .slice xl pre.length cl, .func (.func 75) #[] #[.pointer (some ⟨R, 0, none⟩)], .agg #[.int .i64 (k : Nat), .slice y m c], undef, undef, .slice (some ⟨Z, 0, none⟩) 1 1, undef, undef, undef], defers := [] } Y := by
        intro Y Z hXY hZ hZX
        have cL := (hXY.cell (p := ⟨O + 1, 0, none⟩) hLl).trans HC0.out.1
        have cO := (hXY.cell (p := ⟨O, 0, none⟩) hOl).trans HC0.out.2.1
        have cG0 := (hXY.cell (p := ⟨g, 0, none⟩) hGl).trans HC0.out.2.2.1
        have cG1 := (hXY.cell (p := ⟨g, 1, none⟩) hGl).trans HC0.out.2.2.2
        refine wpAnyIn_ready (rs := [3, 4]) (by rw [← Hops.out]; kernel_rfl) (by simp) ?_
        refine AllReadyIn.cons h3 (fun K hK => ?_) (AllReadyIn.cons h4 (fun K hK => ?_) (AllReadyIn.nil))
        · simp only [List.setIfInBounds_toArray, List.set_cons_zero, List.set_cons_succ] at hK
          go_simp
          refine ⟨trivial, (callsIn_wide.2 (HCall.out Y hXY)).mono ?_⟩
          rintro e wk ⟨v, rfl, hI, hk⟩
          obtain ⟨c1, x1, n1, d1, y1, m1, e1, rfl⟩ := hI.is
          exact hK _ _ (s_01235 wk Z c1 x1 n1 d1 y1 m1 e1 (hXY.trans (hk.mono hXY.size)) (hZ.keep hk) hZX (hI.mono fun b h _ => Nat.le_trans hXY.size h))
        · simp only [List.setIfInBounds_toArray, List.set_cons_zero, List.set_cons_succ] at hK
          go_simp
          exact hK _ _ (s_01245 Y Z hXY hZ hZX)
      have s_0145 : ∀ (Y : World) (Z : Nat), Below X.heap.size X Y → Blk Y Z 25 #[.bool false, .slice none 0 0, .slice none 0 0] → X.heap.size ≤ Z → wpAnyIn Fence.wide (20 - 1 - 1) Tryd.prog .any ops Q 6 #[true, true, false, false, true, true, false, false, false, false] { tmps := #[.func (.func 84) #[] #[.pointer (some ⟨R2, 0, none⟩)], .func (.func 75) #[] #[.pointer (some ⟨R, 0, none⟩)], undef, .pointer (some ⟨O, 0, none⟩), .slice none 0 0, .pointer (some ⟨O + 1, 0, none⟩), .pointer (some ⟨g, 0, none⟩), .func (.func 84) #[] #[.pointer (some ⟨R2, 0, none⟩)], .agg #[.int .i64 (k : Nat), .slice y m c], .slice xl pre.length cl, .func (.func 75) #[] #[.pointer (some ⟨R, 0, none⟩)], undef, undef, .int .i64 (pre.length : Nat), .slice (some ⟨Z, 0, none⟩) 1 1, undef, undef, undef], defers := [] } Y := by
        intro Y Z hXY hZ hZX
        have cL := (hXY.cell (p := ⟨O + 1, 0, none⟩) hLl).trans HC0.out.1
        have cO := (hXY.cell (p := ⟨O, 0, none⟩) hOl).trans HC0.out.2.1
        have cG0 := (hXY.cell (p := ⟨g, 0, none⟩) hGl).trans HC0.out.2.2.1
        have cG1 := (hXY.cell (p := ⟨g, 1, none⟩) hGl).trans HC0.out.2.2.2
        refine wpAnyIn_ready (rs := [2]) (by rw [← Hops.out]; kernel_rfl) (by simp) ?_
        refine AllReadyIn.cons h2 (fun K hK => ?_) (AllReadyIn.nil)
        · simp only [List.setIfInBounds_toArray, List.set_cons_zero, List.set_cons_succ] at hK
          go_simp
          exact hK _ _ (s_01245 Y Z hXY hZ hZX)
      have s_0245 : ∀ (Y : World) (Z : Nat), Below X.heap.size X Y → Blk Y Z 25 #[.bool false, .slice none 0 0, .slice none 0 0] → X.heap.size ≤ Z → wpAnyIn Fence.wide (20 - 1 - 1) Tryd.prog .any ops Q 6 #[true, false, true, false, true, true, false, false, false, false] { tmps := #[.func (.func 84) #[] #[.pointer (some ⟨R2, 0, none⟩)], .func (.func 75) #[] #[.pointer (some ⟨R, 0, none⟩)], undef, .pointer (some ⟨O, 0, none⟩), .slice none 0 0, .pointer (some ⟨O + 1, 0, none⟩), .pointer (some ⟨g, 0, none⟩), .func (.func 84) #[] #[.pointer (some ⟨R2, 0, none⟩)], .agg #[.int .i64 (k : Nat), .slice y m c], .slice xl pre.length cl, undef, .agg #[.int .i64 (k : Nat), .slice y m c], undef, .int .i64 (pre.length : Nat), .slice (some ⟨Z, 0, none⟩) 1 1, undef, undef, undef], defers := [] } Y := by
        intro Y Z hXY hZ hZX
        have cL := (hXY.cell (p := ⟨O + 1, 0, none⟩) hLl).trans HC0.out.1
        have cO := (hXY.cell (p := ⟨O, 0, none⟩) hOl).trans HC0.out.2.1
        have cG0 := (hXY.cell (p := ⟨g, 0, none⟩) hGl).trans HC0.out.2.2.1
        have cG1 := (hXY.cell (p := ⟨g, 1, none⟩) hGl).trans HC0.out.2.2.2
        refine wpAnyIn_ready (rs := [1]) (by rw [← Hops.out]; kernel_rfl) (by simp) ?_
        refine AllReadyIn.cons h1 (fun K hK => ?_) (AllReadyIn.nil)
        · simp only [List.setIfInBounds_toArray, List.set_cons_zero, List.set_cons_succ] at hK
          go_simp
          exact hK _ _ (s_01245 Y Z hXY hZ hZX)
      have s_1235 : ∀ (Y : World) (Z : Nat) (c1 : Bool) (x1 : Option Addr) (n1 d1 : Nat) (y1 : Option Addr) (m1 e1 : Nat), Below X.heap.size X Y → Blk Y Z 25 #[.bool false, .slice none 0 0, .slice none 0 0] → X.heap.size ≤ Z → ItP (fun b => X.heap.size ≤ b) Y t (itW c1 x1 n1 d1 y1 m1 e1) → wpAnyIn Fence.wide (20 - 1 - 1) Tryd.prog .any ops Q 6 #[false, true, true, true, false, true, false, false, false, false] { tmps := #[.func (.func 84) #[] #[.pointer (some ⟨R2, 0, none⟩)], .func (.func 75) #[] #[.pointer (some ⟨R, 0, none⟩)], undef, .pointer (some ⟨O, 0, none⟩), .slice none 0 0, .pointer (some ⟨O + 1, 0, none⟩), .pointer (some ⟨g, 0, none⟩), .func (.func 84) #[] #[.pointer (some ⟨R2, 0, none⟩)], .agg #[.int .i64 (k : Nat), .slice y m c], undef, .func (.func 75) #[] #[.pointer (some ⟨R, 0, none⟩)], .agg #[.int .i64 (k : Nat), .slice y m c], itW c1 x1 n1 d1 y1 m1 e1, undef, .slice (some ⟨Z, 0, none⟩) 1 1, undef, undef, undef], defers := [] } Y := by
        intro Y Z c1 x1 n1 d1 y1 m1 e1 hXY hZ hZX hI
        have cL := (hXY.cell (p := ⟨O + 1, 0, none⟩) hLl).trans HC0.out.1
        have cO := (hXY.cell (p := ⟨O, 0, none⟩) hOl).trans HC0.out.2.1
        have cG0 := (hXY.cell (p := ⟨g, 0, none⟩) hGl).trans HC0.out.2.2.1
        have cG1 := (hXY.cell (p := ⟨g, 1, none⟩) hGl).trans HC0.out.2.2.2
        refine wpAnyIn_ready (rs := [0]) (by rw [← Hops.out]; kernel_rfl) (by simp) ?_
        refine AllReadyIn.cons h0 (fun K hK => ?_) (AllReadyIn.nil)
        · simp only [List.setIfInBounds_toArray, List.set_cons_zero, List.set_cons_succ] at hK
          go_simp
          exact hK _ _ (s_01235 Y Z c1 x1 n1 d1 y1 m1 e1 hXY hZ hZX hI)
      have s_012 : ∀ (Y : World), Below X.heap.size X Y → wpAnyIn Fence.wide (20 - 1 - 1) Tryd.prog .any ops Q 7 #[true, true, true, false, false, false, false, false, false, false] { tmps := #[.func (.func 84) #[] #[.pointer (some ⟨R2, 0, none⟩)], .func (.func 75) #[] #[.pointer (some ⟨R, 0, none⟩)], undef, .pointer (some ⟨O, 0, none⟩), .slice none 0 0, .pointer (some ⟨O + 1, 0, none⟩), .pointer (some ⟨g, 0, none⟩), .func (.func 84) #[] #[.pointer (some ⟨R2, 0, none⟩)], .agg #[.int .i64 (k : Nat), .slice y m c], .slice xl pre.length cl, .func (.func 75) #[] #[.pointer (some ⟨R, 0, none⟩)], .agg #[.int .i64 (k : Nat), .slice y m c], undef, undef, undef, undef, undef, undef], defers := [] } Y := by
        intro Y hXY
        have cL := (hXY.cell (p := ⟨O + 1, 0, none⟩) hLl).trans HC0.out.1
        have cO := (hXY.cell (p := ⟨O, 0, none⟩) hOl).trans HC0.out.2.1
        have cG0 := (hXY.cell (p := ⟨g, 0, none⟩) hGl).trans HC0.out.2.2.1
        have cG1 := (hXY.cell (p := ⟨g, 1, none⟩) hGl).trans HC0.out.2.2.2
        refine wpAnyIn_ready (rs := [3, 4, 5]) (by rw [← Hops.out]; kernel_rfl) (by simp) ?_
        refine AllReadyIn.cons h3 (fun K hK => ?_) (AllReadyIn.cons h4 (fun K hK => ?_) (AllReadyIn.cons h5 (fun K hK => ?_) (AllReadyIn.nil)))
        · simp only [List.setIfInBounds_toArray, List.set_cons_zero, List.set_cons_succ] at hK
          go_simp
          refine ⟨trivial, (callsIn_wide.2 (HCall.out Y hXY)).mono ?_⟩
          rintro e wk ⟨v, rfl, hI, hk⟩
          obtain ⟨c1, x1, n1, d1, y1, m1, e1, rfl⟩ := hI.is
          exact hK _ _ (s_0123 wk c1 x1 n1 d1 y1 m1 e1 (hXY.trans (hk.mono hXY.size)) (hI.mono fun b h _ => Nat.le_trans hXY.size h))
        · simp only [List.setIfInBounds_toArray, List.set_cons_zero, List.set_cons_succ] at hK
          go_simp
          exact hK _ _ (s_0124 Y hXY)
        · simp only [List.setIfInBounds_toArray, List.set_cons_zero, List.set_cons_succ] at hK
          go_simp
          exact hK _ _ (s_0125 _ Y.heap.size (hXY.trans (balloc (Below.refl _ _) _ |>.mono hXY.size)) (Blk.new _ _ _) hXY.size)
      have s_014 : ∀ (Y : World), Below X.heap.size X Y → wpAnyIn Fence.wide (20 - 1 - 1) Tryd.prog .any ops Q 7 #[true, true, false, false, true, false, false, false, false, false] { tmps := #[.func (.func 84) #[] #[.pointer (some ⟨R2, 0, none⟩)], .func (.func 75) #[] #[.pointer (some ⟨R, 0, none⟩)], undef, .pointer (some ⟨O, 0, none⟩), .slice none 0 0, .pointer (some ⟨O + 1, 0, none⟩), .pointer (some ⟨g, 0, none⟩), .func (.func 84) #[] #[.pointer (some ⟨R2, 0, none⟩)], .agg #[.int .i64 (k : Nat), .slice y m c], .slice xl pre.length cl, .func (.func 75) #[] #[.pointer (some ⟨R, 0, none⟩)], undef, undef, .int .i64 (pre.length : Nat), undef, undef, undef, undef], defers := [] } Y := by
        intro Y hXY
        have cL := (hXY.cell (p := ⟨O + 1, 0, none⟩) hLl).trans HC0.out.1
        have cO := (hXY.cell (p := ⟨O, 0, none⟩) hOl).trans HC0.out.2.1
        have cG0 := (hXY.cell (p := ⟨g, 0, none⟩) hGl).trans HC0.out.2.2.1
        have cG1 := (hXY.cell (p := ⟨g, 1, none⟩) hGl).trans HC0.out.2.2.2
        refine wpAnyIn_ready (rs := [2, 5]) (by rw [← Hops.out]; kernel_rfl) (by simp) ?_
        refine AllReadyIn.cons h2 (fun K hK => ?_) (AllReadyIn.cons h5 (fun K hK => ?_) (AllReadyIn.nil))
        · simp only [List.setIfInBounds_toArray, List.set_cons_zero, List.set_cons_succ] at hK
          go_simp
          exact hK _ _ (s_0124 Y hXY)
        · simp only [List.setIfInBounds_toArray, List.set_cons_zero, List.set_cons_succ] at hK
          go_simp
          exact hK _ _ (s_0145 _ Y.heap.size (hXY.trans (balloc (Below.refl _ _) _ |>.mono hXY.size)) (Blk.new _ _ _) hXY.size)
      have s_015 : ∀ (Y : World) (Z : Nat), Below X.heap.size X Y → Blk Y Z 25 #[.bool false, .slice none 0 0, .slice none 0 0] → X.heap.size ≤ Z → wpAnyIn Fence.wide (20 - 1 - 1) Tryd.prog .any ops Q 7 #[true, true, false, false, false, true, false, false, false, false] { tmps := #[.func (.func 84) #[] #[.pointer (some ⟨R2, 0, none⟩)], .func (.func 75) #[] #[.pointer (some ⟨R, 0, none⟩)], undef, .pointer (some ⟨O, 0, none⟩), .slice none 0 0, .pointer (some ⟨O + 1, 0, none⟩), .pointer (some ⟨g, 0, none⟩), .func (.func 84) #[] #[.pointer (some ⟨R2, 0, none⟩)], .agg #[.int .i64 (k : Nat), .slice y m c], .slice xl pre.length cl, .func (.func 75) #[] #[.pointer (some ⟨R, 0, none⟩)], undef, undef, undef, .slice (some ⟨Z, 0, none⟩) 1 1, undef, undef, undef], defers := [] } Y := by
        intro Y Z hXY hZ hZX
        have cL := (hXY.cell (p := ⟨O + 1, 0, none⟩) hLl).trans HC0.out.1
        have cO := (hXY.cell (p := ⟨O, 0, none⟩) hOl).trans HC0.out.2.1
        have cG0 := (hXY.cell (p := ⟨g, 0, none⟩) hGl).trans HC0.out.2.2.1
        have cG1 := (hXY.cell (p := ⟨g, 1, none⟩) hGl).trans HC0.out.2.2.2
        refine wpAnyIn_ready (rs := [2, 4]) (by rw [← Hops.out]; kernel_rfl) (by simp) ?_
        refine AllReadyIn.cons h2 (fun K hK => ?_) (AllReadyIn.cons h4 (fun K hK => ?_) (AllReadyIn.nil))
        · simp only [List.setIfInBounds_toArray, List.set_cons_zero, List.set_cons_succ] at hK
          go_simp
          exact hK _ _ (s_0125 Y Z hXY hZ hZX)
        · simp only [List.setIfInBounds_toArray, List.set_cons_zero, List.set_cons_succ] at hK
          go_simp
          exact hK _ _ (s_0145 Y Z hXY hZ hZX)
      have s_024 : ∀ (Y : World), Below X.heap.size X Y → wpAnyIn Fence.wide (20 - 1 - 1) Tryd.prog .any ops Q 7 #[true, false, true, false, true, false, false, false, false, false] { tmps := #[.func (.func 84) #[] #[.pointer (some ⟨R2, 0, none⟩)], .func (.func 75) #[] #[.pointer (some ⟨R, 0, none⟩)], undef, .pointer (some ⟨O, 0, none⟩), .slice none 0 0, .pointer (some ⟨O + 1, 0, none⟩), .pointer (some ⟨g, 0, none⟩), .func (.func 84) #[] #[.pointer (some ⟨R2, 0, none⟩)], .agg #[.int .i64 (k : Nat), .slice y m c], .slice xl pre.length cl, undef, .agg #[.int .i64 (k : Nat), .slice y m c], undef, .int .i64 (pre.length : Nat), undef, undef, undef, undef], defers := [] } Y := by
        intro Y hXY
        have cL := (hXY.cell (p := ⟨O + 1, 0, none⟩) hLl).trans HC0.out.1
        have cO := (hXY.cell (p := ⟨O, 0, none⟩) hOl).trans HC0.out.2.1
        have cG0 := (hXY.cell (p := ⟨g, 0, none⟩) hGl).trans HC0.out.2.2.1
        have cG1 := (hXY.cell (p := ⟨g, 1, none⟩) hGl).trans HC0.out.2.2.2
        refine wpAnyIn_ready (rs := [1, 5]) (by rw [← Hops.out]; kernel_rfl) (by simp) ?_
        refine AllReadyIn.cons h1 (fun K hK => ?_) (AllReadyIn.cons h5 (fun K hK => ?_) (AllReadyIn.nil))
        · simp only [List.setIfInBounds_toArray, List.set_cons_zero, List.set_cons_succ] at hK
          go_simp
          exact hK _ _ (s_0124 Y hXY)
        · simp only [List.setIfInBounds_toArray, List.set_cons_zero, List.set_cons_succ] at hK
          go_simp
          exact hK _ _ (s_0245 _ Y.heap.size (hXY.trans (balloc (Below.refl _ _) _ |>.mono hXY.size)) (Blk.new _ _ _) hXY.size)
      have s_025 : ∀ (Y : World) (Z : Nat), Below X.heap.size X Y → Blk Y Z 25 #[.bool false, .slice none 0 0, .slice none 0 0] → X.heap.size ≤ Z → wpAnyIn Fence.wide (20 - 1 - 1) Tryd.prog .any ops Q 7 #[true, false, true, false, false, true, false, false, false, false] { tmps := #[.func (.func 84) #[] #[.pointer (some ⟨R2, 0, none⟩)], .func (.func 75) #[] #[.pointer (some ⟨R, 0, none⟩)], undef, .pointer (some ⟨O, 0, none⟩), .slice none 0 0, .pointer (some ⟨O + 1, 0, none⟩), .pointer (some ⟨g, 0, none⟩), .func (.func 84) #[] #[.pointer (some ⟨R2, 0, none⟩)], .agg #[.int .i64 (k : Nat), .slice y m c], .slice xl pre.length cl, undef, .agg #[.int .i64 (k : Nat), .slice y m c], undef, undef, .slice (some ⟨Z, 0, none⟩) 1 1, undef, undef, undef], defers := [] } Y := by
        intro Y Z hXY hZ hZX
        have cL := (hXY.cell (p := ⟨O + 1, 0, none⟩) hLl).trans HC0.out.1
        have cO := (hXY.cell (p := ⟨O, 0, none⟩) hOl).trans HC0.out.2.1
        have cG0 := (hXY.cell (p := ⟨g, 0, none⟩) hGl).trans HC0.out.2.2.1
        have cG1 := (hXY.cell (p := ⟨g, 1, none⟩) hGl).trans HC0.out.2.2.2
        refine wpAnyIn_ready (rs := [1, 4]) (by rw [← Hops.out]; kernel_rfl) (by simp) ?_
        refine AllReadyIn.cons h1 (fun K hK => ?_) (AllReadyIn.cons h4 (fun K hK => ?_) (AllReadyIn.nil))
        · simp only [List.setIfInBounds_toArray, List.set_cons_zero, List.set_cons_succ] at hK
          go_simp
          exact hK _ _ (s_0125 Y Z hXY hZ hZX)
        · simp only [List.setIfInBounds_toArray, List.set_cons_zero, List.set_cons_succ] at hK
          go_simp
          exact hK _ _ (s_0245 Y Z hXY hZ hZX)
      have s_045 : ∀ (Y : World) (Z : Nat), Below X.heap.size X Y → Blk Y Z 25 #[.bool false, .slice none 0 0, .slice none 0 0] → X.heap.size ≤ Z → wpAnyIn Fence.wide (20 - 1 - 1) Tryd.prog .any ops Q 7 #[true, false, false, false, true, true, false, false, false, false] { tmps := #[.func (.func 84) #[] #[.pointer (some ⟨R2, 0, none⟩)], .func (.func 75) #[] #[.pointer (some ⟨R, 0, none⟩)], undef, .pointer (some ⟨O, 0, none⟩), .slice none 0 0, .pointer (some ⟨O + 1, 0, none⟩), .pointer (some ⟨g, 0, none⟩), .func (.func 84) #[] #[.pointer (some ⟨R2, 0, none⟩)], .agg #[.int .i64 (k : Nat), .slice y m c], .slice xl pre.length cl, undef, undef, undef, .int .i64 (pre.length : Nat), .slice (some ⟨Z, 0, none⟩) 1 1, undef, undef, undef], defers := [] } Y := by
        intro Y Z hXY hZ hZX
        have cL := (hXY.cell (p := ⟨O + 1, 0, none⟩) hLl).trans HC0.out.1
        have cO := (hXY.cell (p := ⟨O, 0, none⟩) hOl).trans HC0.out.2.1
        have cG0 := (hXY.cell (p := ⟨g, 0, none⟩) hGl).trans HC0.out.2.2.1
        have cG1 := (hXY.cell (p := ⟨g, 1, none⟩) hGl).trans HC0.out.2.2.2
        refine wpAnyIn_ready (rs := [1, 2]) (by rw [← Hops.out]; kernel_rfl) (by simp) ?_
        refine AllReadyIn.cons h1 (fun K hK => ?_) (AllReadyIn.cons h2 (fun K hK => ?_) (AllReadyIn.nil))
        · simp only [List.setIfInBounds_toArray, List.set_cons_zero, List.set_cons_succ] at hK
          go_simp
          exact hK _ _ (s_0145 Y Z hXY hZ hZX)
        · simp only [List.setIfInBounds_toArray, List.set_cons_zero, List.set_cons_succ] at hK
          go_simp
          exact hK _ _ (s_0245 Y Z hXY hZ hZX)
      have s_123 : ∀ (Y : World) (c1 : Bool) (x1 : Option Addr) (n1 d1 : Nat) (y1 : Option Addr) (m1 e1 : Nat), Below X.heap.size X Y → ItP (fun b => X.heap.size ≤ b) Y t (itW c1 x1 n1 d1 y1 m1 e1) → wpAnyIn Fence.wide (20 - 1 - 1) Tryd.prog .any ops Q 7 #[false, true, true, true, false, false, false, false, false, false] { tmps := #[.func (.func 84) #[] #[.pointer (some ⟨R2, 0, none⟩)], .func (.func 75) #[] #[.pointer (some ⟨R, 0, none⟩)], undef, .pointer (some ⟨O, 0, none⟩), .slice none 0 0, .pointer (some ⟨O + 1, 0, none⟩), .pointer (some ⟨g, 0, none⟩), .func (.func 84) #[] #[.pointer (some ⟨R2, 0, none⟩)], .agg #[.int .i64 (k : Nat), .slice y m c], undef, .func (.func 75) #[] #[.pointer (some ⟨R, 0, none⟩)], .agg #[.int .i64 (k : Nat), .slice y m c], itW c1 x1 n1 d1 y1 m1 e1, undef, undef, undef, undef, undef], defers := [] } Y := by
        intro Y c1 x1 n1 d1 y1 m1 e1 hXY hI
        have cL := (hXY.cell (p := ⟨O + 1, 0, none⟩) hLl).trans HC0.out.1
        have cO := (hXY.cell (p := ⟨O, 0, none⟩) hOl).trans HC0.out.2.1
        have cG0 := (hXY.cell (p := ⟨g, 0, none⟩) hGl).trans HC0.out.2.2.1
        have cG1 := (hXY.cell (p := ⟨g, 1, none⟩) hGl).trans HC0.out.2.2.2
        refine wpAnyIn_ready (rs := [0, 5]) (by rw [← Hops.out]; kernel_rfl) (by simp) ?_
        refine AllReadyIn.cons h0 (fun K hK => ?_) (AllReadyIn.cons h5 (fun K hK => ?_) (AllReadyIn.nil))
        · simp only [List.setIfInBounds_toArray, List.set_cons_zero, List.set_cons_succ] at hK
          go_simp
          exact hK _ _ (s_0123 Y c1 x1 n1 d1 y1 m1 e1 hXY hI)
        · simp only [List.setIfInBounds_toArray, List.set_cons_zero, List.set_cons_succ] at hK
          go_simp
          exact hK _ _ (s_1235 _ Y.heap.size c1 x1 n1 d1 y1 m1 e1 (hXY.trans (balloc (Below.refl _ _) _ |>.mono hXY.size)) (Blk.new _ _ _) hXY.size (hI.new (balloc (Below.refl _ _) _)))
      have s_125 : ∀ (Y : World) (Z : Nat), Below X.heap.size X Y → Blk Y Z 25 #[.bool false, .slice none 0 0, .slice none 0 0] → X.heap.size ≤ Z → wpAnyIn Fence.wide (20 - 1 - 1) Tryd.prog .any ops Q 7 #[false, true, true, false, false, true, false, false, false, false] { tmps := #[.func (.func 84) #[] #[.pointer (some ⟨R2, 0, none⟩)], .func (.func 75) #[] #[.pointer (some ⟨R, 0, none⟩)], undef, .pointer (some ⟨O, 0, none⟩), .slice none 0 0, .pointer (some ⟨O + 1, 0, none⟩), .pointer (some ⟨g, 0, none⟩), .func (.func 84) #[] #[.pointer (some ⟨R2, 0, none⟩)], .agg #[.int .i64 (k : Nat), .slice y m c], undef, .func (.func 75) #[] #[.pointer (some ⟨R, 0, none⟩)], .agg #[.int .i64 (k : Nat), .slice y m c], undef, undef, .slice (some ⟨Z, 0, none⟩) 1 1, undef, undef, undef], defers := [] } Y := by
        intro Y Z hXY hZ hZX
        have cL := (hXY.cell (p := ⟨O + 1, 0, none⟩) hLl).trans HC0.out.1
        have cO := (hXY.cell (p := ⟨O, 0, none⟩) hOl).trans HC0.out.2.1
        have cG0 := (hXY.cell (p := ⟨g, 0, none⟩) hGl).trans HC0.out.2.2.1
        have cG1 := (hXY.cell (p := ⟨g, 1, none⟩) hGl).trans HC0.out.2.2.2
        refine wpAnyIn_ready (rs := [0, 3]) (by rw [← Hops.out]; kernel_rfl) (by simp) ?_
        refine AllReadyIn.cons h0 (fun K hK => ?_) (AllReadyIn.cons h3 (fun K hK => ?_) (AllReadyIn.nil))
        · simp only [List.setIfInBounds_toArray, List.set_cons_zero, List.set_cons_succ] at hK
          go_simp
          exact hK _ _ (s_0125 Y Z hXY hZ hZX)
        · simp only [List.setIfInBounds_toArray, List.set_cons_zero, List.set_cons_succ] at hK
          go_simp
          refine ⟨trivial, (callsIn_wide.2 (HCall.out Y hXY)).mono ?_⟩
          rintro e wk ⟨v, rfl, hI, hk⟩
          obtain ⟨c1, x1, n1, d1, y1, m1, e1, rfl⟩ := hI.is
          exact hK _ _ (s_1235 wk Z c1 x1 n1 d1 y1 m1 e1 (hXY.trans (hk.mono hXY.size)) (hZ.keep hk) hZX (hI.mono fun b h _ => Nat.le_trans hXY.size h))
      have s_01 : ∀ (Y : World), Below X.heap.size X Y → wpAnyIn Fence.wide (20 - 1 - 1) Tryd.prog .any ops Q 8 #[true, true, false, false, false, false, false, false, false, false] { tmps := #[.func (.func 84) #[] #[.pointer (some ⟨R2, 0, none⟩)], .func (.func 75) #[] #[.pointer (some ⟨R, 0, none⟩)], undef, .pointer (some ⟨O, 0, none⟩), .slice none 0 0, .pointer (some ⟨O + 1, 0, none⟩), .pointer (some ⟨g, 0, none⟩), .func (.func 84) #[] #[.pointer (some ⟨R2, 0, none⟩)], .agg #[.int .i64 (k : Nat), .slice y m c], .slice xl pre.length cl, .func (.func 75) #[] #[.pointer (some ⟨R, 0, none⟩)], undef, undef, undef, undef, undef, undef, undef], defers := [] } Y := by
        intro Y hXY
        have cL := (hXY.cell (p := ⟨O + 1, 0, none⟩) hLl).trans HC0.out.1
        have cO := (hXY.cell (p := ⟨O, 0, none⟩) hOl).trans HC0.out.2.1
        have cG0 := (hXY.cell (p := ⟨g, 0, none⟩) hGl).trans HC0.out.2.2.1
        have cG1 := (hXY.cell (p := ⟨g, 1, none⟩) hGl).trans HC0.out.2.2.2
        refine wpAnyIn_ready (rs := [2, 4, 5]) (by rw [← Hops.out]; kernel_rfl) (by simp) ?_
        refine AllReadyIn.cons h2 (fun K hK => ?_) (AllReadyIn.cons h4 (fun K hK => ?_) (AllReadyIn.cons h5 (fun K hK => ?_) (AllReadyIn.nil)))
        · simp only [List.setIfInBounds_toArray, List.set_cons_zero, List.set_cons_succ] at hK
          go_simp
          exact hK _ _ (s_012 Y hXY)
        · simp only [List.setIfInBounds_toArray, List.set_cons_zero, List.set_cons_succ] at hK
          go_simp
          exact hK _ _ (s_014 Y hXY)
        · simp only [List.setIfInBounds_toArray, List.set_cons_zero, List.set_cons_succ] at hK
          go_simp
          exact hK _ _ (s_015 _ Y.heap.size (hXY.trans (balloc (Below.refl _ _) _ |>.mono hXY.size)) (Blk.new _ _ _) hXY.size)
      have s_02 : ∀ (Y : World), Below X.heap.size X Y → wpAnyIn Fence.wide (20 - 1 - 1) Tryd.prog .any ops Q 8 #[true, false, true, false, false, false, false, false, false, false] { tmps := #[.func (.func 84) #[] #[.pointer (some ⟨R2, 0, none⟩)], .func (.func 75) #[] #[.pointer (some ⟨R, 0, none⟩)], undef, .pointer (some ⟨O, 0, none⟩), .slice none 0 0, .pointer (some ⟨O + 1, 0, none⟩), .pointer (some ⟨g, 0, none⟩), .func (.func 84) #[] #[.pointer (some ⟨R2, 0, none⟩)], .agg #[.int .i64 (k : Nat), .slice y m c], .slice xl pre.length cl, undef, .agg #[.int .i64 (k : Nat), .slice y m c], undef, undef, undef, undef, undef, undef], defers := [] } Y := by
        intro Y hXY
        have cL := (hXY.cell (p := ⟨O + 1, 0, none⟩) hLl).trans HC0.out.1
        have cO := (hXY.cell (p := ⟨O, 0, none⟩) hOl).trans HC0.out.2.1
        have cG0 := (hXY.cell (p := ⟨g, 0, none⟩) hGl).trans HC0.out.2.2.1
        have cG1 := (hXY.cell (p := ⟨g, 1, none⟩) hGl).trans HC0.out.2.2.2
        refine wpAnyIn_ready (rs := [1, 4, 5]) (by rw [← Hops.out]; kernel_rfl) (by simp) ?_
        refine AllReadyIn.cons h1 (fun K hK => ?_) (AllReadyIn.cons h4 (fun K hK => ?_) (AllReadyIn.cons h5 (fun K hK => ?_) (AllReadyIn.nil)))
        · simp only [List.setIfInBounds_toArray, List.set_cons_zero, List.set_cons_succ] at hK
          go_simp
          exact hK _ _ (s_012 Y hXY)
        · simp only [List.setIfInBounds_toArray, List.set_cons_zero, List.set_cons_succ] at hK
          go_simp
          exact hK _ _ (s_024 Y hXY)
        · simp only [List.setIfInBounds_toArray, List.set_cons_zero, List.set_cons_succ] at hK
          go_simp
          exact hK _ _ (s_025 _ Y.heap.size (hXY.trans (balloc (Below.refl _ _) _ |>.mono hXY.size)) (Blk.new _ _ _) hXY.size)
      have s_04 : ∀ (Y : World), Below X.heap.size X Y → wpAnyIn Fence.wide (20 - 1 - 1) Tryd.prog .any ops Q 8 #[true, false, false, false, true, false, false, false, false, false] { tmps := #[.func (.func 84) #[] #[.pointer (some ⟨R2, 0, none⟩)], .func (.func 75) #[] #[.pointer (some ⟨R, 0, none⟩)], undef, .pointer (some ⟨O, 0, none⟩), .slice none 0 0, .pointer (some ⟨O + 1, 0, none⟩), .pointer (some ⟨g, 0, none⟩), .func (.func 84) #[] #[.pointer (some ⟨R2, 0, none⟩)], .agg #[.int .i64 (k : Nat), .slice y m c], .slice xl pre.length cl, undef, undef, undef, .int .i64 (pre.length : Nat), undef, undef, undef, undef], defers := [] } Y := by
        intro Y hXY
        have cL := (hXY.cell (p := ⟨O + 1, 0, none⟩) hLl).trans HC0.out.1
        have cO := (hXY.cell (p := ⟨O, 0, none⟩) hOl).trans HC0.out.2.1
        have cG0 := (hXY.cell (p := ⟨g, 0, none⟩) hGl).trans HC0.out.2.2.1
        have cG1 := (hXY.cell (p := ⟨g, 1, none⟩) hGl).trans HC0.out.2.2.2
        refine wpAnyIn_ready (rs := [1, 2, 5]) (by rw [← Hops.out]; kernel_rfl) (by simp) ?_
        refine AllReadyIn.cons h1 (fun K hK => ?_) (AllReadyIn.cons h2 (fun K hK => ?_) (AllReadyIn.cons h5 (fun K hK => ?_) (AllReadyIn.nil)))
        · simp only [List.setIfInBounds_toArray, List.set_cons_zero, List.set_cons_succ] at hK
          go_simp
          exact hK _ _ (s_014 Y hXY)
        · simp only [List.setIfInBounds_toArray, List.set_cons_zero, List.set_cons_succ] at hK
          go_simp
          exact hK _ _ (s_024 Y hXY)
        · simp only [List.setIfInBounds_toArray, List.set_cons_zero, List.set_cons_succ] at hK
          go_simp
          exact hK _ _ (s_045 _ Y.heap.size (hXY.trans (balloc (Below.refl _ _) _ |>.mono hXY.size)) (Blk.new _ _ _) hXY.size)
      have s_05 : ∀ (Y : World) (Z : Nat), Below X.heap.size X Y → Blk Y Z 25 #[.bool false, .slice none 0 0, .slice none 0 0] → X.heap.size ≤ Z → wpAnyIn Fence.wide (20 - 1 - 1) Tryd.prog .any ops Q 8 #[true, false, false, false, false, true, false, false, false, false] { tmps := #[.func (.func 84) #[] #[.pointer (some ⟨R2, 0, none⟩)], .func (.func 75) #[] #[.pointer (some ⟨R, 0, none⟩)], undef, .pointer (some ⟨O, 0, none⟩), .slice none 0 0, .pointer (some ⟨O + 1, 0, none⟩), .pointer (some ⟨g, 0, none⟩), .func (.func 84) #[] #[.pointer (some ⟨R2, 0, none⟩)], .agg #[.int .i64 (k : Nat), .slice y m c], .slice xl pre.length cl, undef, undef, undef, undef, .slice (some ⟨Z, 0, none⟩) 1 1, undef, undef, undef], defers := [] } Y := by
        intro Y Z hXY hZ hZX
        have cL := (hXY.cell (p := ⟨O + 1, 0, none⟩) hLl).trans HC0.out.1
        have cO := (hXY.cell (p := ⟨O, 0, none⟩) hOl).trans HC0.out.2.1
        have cG0 := (hXY.cell (p := ⟨g, 0, none⟩) hGl).trans HC0.out.2.2.1
        have cG1 := (hXY.cell (p := ⟨g, 1, none⟩) hGl).trans HC0.out.2.2.2
        refine wpAnyIn_ready (rs := [1, 2, 4]) (by rw [← Hops.out]; kernel_rfl) (by simp) ?_
        refine AllReadyIn.cons h1 (fun K hK => ?_) (AllReadyIn.cons h2 (fun K hK => ?_) (AllReadyIn.cons h4 (fun K hK => ?_) (AllReadyIn.nil)))
        · simp only [List.setIfInBounds_toArray, List.set_cons_zero, List.set_cons_succ] at hK
          go_simp
          exact hK _ _ (s_015 Y Z hXY hZ hZX)
        · simp only [List.setIfInBounds_toArray, List.set_cons_zero, List.set_cons_succ] at hK
          go_simp
          exact hK _ _ (s_025 Y Z hXY hZ hZX)
        · simp only [List.setIfInBounds_toArray, List.set_cons_zero, List.set_cons_succ] at hK
          go_simp
          exact hK _ _ (s_045 Y Z hXY hZ hZX)
      have s_12 : ∀ (Y : World), Below X.heap.size X Y → wpAnyIn Fence.wide (20 - 1 - 1) Tryd.prog .any ops Q 8 #[false, true, true, false, false, false, false, false, false, false] { tmps := #[.func (.func 84) #[] #[.pointer (some ⟨R2, 0, none⟩)], .func (.func 75) #[] #[.pointer (some ⟨R, 0, none⟩)], undef, .pointer (some ⟨O, 0, none⟩), .slice none 0 0, .pointer (some ⟨O + 1, 0, none⟩), .pointer (some ⟨g, 0, none⟩), .func (.func 84) #[] #[.pointer (some ⟨R2, 0, none⟩)], .agg #[.int .i64 (k : Nat), .slice y m c], undef, .func (.func 75) #[] #[.pointer (some ⟨R, 0, none⟩)], .agg #[.int .i64 (k : Nat), .slice y m c], undef, undef, undef, undef, undef, undef], defers := [] } Y := by
        intro Y hXY
        have cL := (hXY.cell (p := ⟨O + 1, 0, none⟩) hLl).trans HC0.out.1
        have cO := (hXY.cell (p := ⟨O, 0, none⟩) hOl).trans HC0.out.2.1
        have cG0 := (hXY.cell (p := ⟨g, 0, none⟩) hGl).trans HC0.out.2.2.1
        have cG1 := (hXY.cell (p := ⟨g, 1, none⟩) hGl).trans HC0.out.2.2.2
        refine wpAnyIn_ready (rs := [0, 3, 5]) (by rw [← Hops.out]; kernel_rfl) (by simp) ?_
        refine AllReadyIn.cons h0 (fun K hK => ?_) (AllReadyIn.cons h3 (fun K hK => ?_) (AllReadyIn.cons h5 (fun K hK => ?_) (AllReadyIn.nil)))
        · simp only [List.setIfInBounds_toArray, List.set_cons_zero, List.set_cons_succ] at hK
          go_simp
          exact hK _ _ (s_012 Y hXY)
        · simp only [List.setIfInBounds_toArray, List.set_cons_zero, List.set_cons_succ] at hK
          go_simp
          refine ⟨trivial, (callsIn_wide.2 (HCall.out Y hXY)).mono ?_⟩
          rintro e wk ⟨v, rfl, hI, hk⟩
          obtain ⟨c1, x1, n1, d1, y1, m1, e1, rfl⟩ := hI.is
          exact hK _ _ (s_123 wk c1 x1 n1 d1 y1 m1 e1 (hXY.trans (hk.mono hXY.size)) (hI.mono fun b h _ => Nat.le_trans hXY.size h))
        · simp only [List.setIfInBounds_toArray, List.set_cons_zero, List.set_cons_succ] at hK
          go_simp
          exact hK _ _ (s_125 _ Y.heap.size (hXY.trans (balloc (Below.refl _ _) _ |>.mono hXY.size)) (Blk.new _ _ _) hXY.size)
      have s_15 : ∀ (Y : World) (Z : Nat), Below X.heap.size X Y → Blk Y Z 25 #[.bool false, .slice none 0 0, .slice none 0 0] → X.heap.size ≤ Z → wpAnyIn Fence.wide (20 - 1 - 1) Tryd.prog .any ops Q 8 #[false, true, false, false, false, true, false, false, false, false] { tmps := #[.func (.func 84) #[] #[.pointer (some ⟨R2, 0, none⟩)], .func (.func 75) #[] #[.pointer (some ⟨R, 0, none⟩)], undef, .pointer (some ⟨O, 0, none⟩), .slice none 0 0, .pointer (some ⟨O + 1, 0, none⟩), .pointer (some ⟨g, 0, none⟩), .func (.func 84) #[] #[.pointer (some ⟨R2, 0, none⟩)], .agg #[.int .i64 (k : Nat), .slice y m c], undef, .func (.func 75) #[] #[.pointer (some ⟨R, 0, none⟩)], undef, undef, undef, .slice (some ⟨Z, 0, none⟩) 1 1, undef, undef, undef], defers := [] } Y := by
        intro Y Z hXY hZ hZX
        have cL := (hXY.cell (p := ⟨O + 1, 0, none⟩) hLl).trans HC0.out.1
        have cO := (hXY.cell (p := ⟨O, 0, none⟩) hOl).trans HC0.out.2.1
        have cG0 := (hXY.cell (p := ⟨g, 0, none⟩) hGl).trans HC0.out.2.2.1
        have cG1 := (hXY.cell (p := ⟨g, 1, none⟩) hGl).trans HC0.out.2.2.2
        refine wpAnyIn_ready (rs := [0, 2]) (by rw [← Hops.out]; kernel_rfl) (by simp) ?_
        refine AllReadyIn.cons h0 (fun K hK => ?_) (AllReadyIn.cons h2 (fun K hK => ?_) (AllReadyIn.nil))
        · simp only [List.setIfInBounds_toArray, List.set_cons_zero, List.set_cons_succ] at hK
          go_simp
          exact hK _ _ (s_015 Y Z hXY hZ hZX)
        · simp only [List.setIfInBounds_toArray, List.set_cons_zero, List.set_cons_succ] at hK
          go_simp
          exact hK _ _ (s_125 Y Z hXY hZ hZX)
      have s_25 : ∀ (Y : World) (Z : Nat), Below X.heap.size X Y → Blk Y Z 25 #[.bool false, .slice none 0 0, .slice none 0 0] → X.heap.size ≤ Z → wpAnyIn Fence.wide (20 - 1 - 1) Tryd.prog .any ops Q 8 #[false, false, true, false, false, true, false, false, false, false] { tmps := #[.func (.func 84) #[] #[.pointer (some ⟨R2, 0, none⟩)], .func (.func 75) #[] #[.pointer (some ⟨R, 0, none⟩)], undef, .pointer (some ⟨O, 0, none⟩), .slice none 0 0, .pointer (some ⟨O + 1, 0, none⟩), .pointer (some ⟨g, 0, none⟩), .func (.func 84) #[] #[.pointer (some ⟨R2, 0, none⟩)], .agg #[.int .i64 (k : Nat), .slice y m c], undef, undef, .agg #[.int .i64 (k : Nat), .slice y m c], undef, undef, .slice (some ⟨Z, 0, none⟩) 1 1, undef, undef, undef], defers := [] } Y := by
        intro Y Z hXY hZ hZX
        have cL := (hXY.cell (p := ⟨O + 1, 0, none⟩) hLl).trans HC0.out.1
        have cO := (hXY.cell (p := ⟨O, 0, none⟩) hOl).trans HC0.out.2.1
        have cG0 := (hXY.cell (p := ⟨g, 0, none⟩) hGl).trans HC0.out.2.2.1
        have cG1 := (hXY.cell (p := ⟨g, 1, none⟩) hGl).trans HC0.out.2.2.2
        refine wpAnyIn_ready (rs := [0, 1]) (by rw [← Hops.out]; kernel_rfl) (by simp) ?_
        refine AllReadyIn.cons h0 (fun K hK => ?_) (AllReadyIn.cons h1 (fun K hK => ?_) (AllReadyIn.nil))
        · simp only [List.setIfInBounds_toArray, List.set_cons_zero, List.set_cons_succ] at hK
          go_simp
          exact hK _ _ (s_025 Y Z hXY hZ hZX)
        · simp only [List.setIfInBounds_toArray, List.set_cons_zero, List.set_cons_succ] at hK
          go_simp
          exact hK _ _ (s_125 Y Z hXY hZ hZX)
      have s_0 : ∀ (Y : World), Below X.heap.size X Y → wpAnyIn Fence.wide (20 - 1 - 1) Tryd.prog .any ops Q 9 #[true, false, false, false, false, false, false, false, false, false] { tmps := #[.func (.func 84) #[] #[.pointer (some ⟨R2, 0, none⟩)], .func (.func 75) #[] #[.pointer (some ⟨R, 0, none⟩)], undef, .pointer (some ⟨O, 0, none⟩), .slice none 0 0, .pointer (some ⟨O + 1, 0, none⟩), .pointer (some ⟨g, 0, none⟩), .func (.func 84) #[] #[.pointer (some ⟨R2, 0, none⟩)], .agg #[.int .i64 (k : Nat), .slice y m c], .slice xl pre.length cl, undef, undef, undef, undef, undef, undef, undef, undef], defers := [] } Y := by
        intro Y hXY
        have cL := (hXY.cell (p := ⟨O + 1, 0, none⟩) hLl).trans HC0.out.1
        have cO := (hXY.cell (p := ⟨O, 0, none⟩) hOl).trans HC0.out.2.1
        have cG0 := (hXY.cell (p := ⟨g, 0, none⟩) hGl).trans HC0.out.2.2.1
        have cG1 := (hXY.cell (p := ⟨g, 1, none⟩) hGl).trans HC0.out.2.2.2
        refine wpAnyIn_ready (rs := [1, 2, 4, 5]) (by rw [← Hops.out]; kernel_rfl) (by simp) ?_
        refine AllReadyIn.cons h1 (fun K hK => ?_) (AllReadyIn.cons h2 (fun K hK => ?_) (AllReadyIn.cons h4 (fun K hK => ?_) (AllReadyIn.cons h5 (fun K hK => ?_) (AllReadyIn.nil))))
        · simp only [List.setIfInBounds_toArray, List.set_cons_zero, List.set_cons_succ] at hK
          go_simp
          exact hK _ _ (s_01 Y hXY)
        · simp only [List.setIfInBounds_toArray, List.set_cons_zero, List.set_cons_succ] at hK
          go_simp
          exact hK _ _ (s_02 Y hXY)
        · simp only [List.setIfInBounds_toArray, List.set_cons_zero, List.set_cons_succ] at hK
          go_simp
          exact hK _ _ (s_04 Y hXY)
        · simp only [List.setIfInBounds_toArray, List.set_cons_zero, List.set_cons_succ] at hK
          go_simp
          exact hK _ _ (s_05 _ Y.heap.size (hXY.trans (balloc (Below.refl _ _) _ |>.mono hXY.size)) (Blk.new _ _ _) hXY.size)
      have s_1 : ∀ (Y : World), Below X.heap.size X Y → wpAnyIn Fence.wide (20 - 1 - 1) Tryd.prog .any ops Q 9 #[false, true, false, false, false, false, false, false, false, false] { tmps := #[.func (.func 84) #[] #[.pointer (some ⟨R2, 0, none⟩)], .func (.func 75) #[] #[.pointer (some ⟨R, 0, none⟩)], undef, .pointer (some ⟨O, 0, none⟩), .slice none 0 0, .pointer (some ⟨O + 1, 0, none⟩), .pointer (some ⟨g, 0, none⟩), .func (.func 84) #[] #[.pointer (some ⟨R2, 0, none⟩)], .agg #[.int .i64 (k : Nat), .slice y m c], undef, .func (.func 75) #[] #[.pointer (some ⟨R, 0, none⟩)], undef, undef, undef, undef, undef, undef, undef], defers := [] } Y := by
        intro Y hXY
        have cL := (hXY.cell (p := ⟨O + 1, 0, none⟩) hLl).trans HC0.out.1
        have cO := (hXY.cell (p := ⟨O, 0, none⟩) hOl).trans HC0.out.2.1
        have cG0 := (hXY.cell (p := ⟨g, 0, none⟩) hGl).trans HC0.out.2.2.1
        have cG1 := (hXY.cell (p := ⟨g, 1, none⟩) hGl).trans HC0.out.2.2.2
        refine wpAnyIn_ready (rs := [0, 2, 5]) (by rw [← Hops.out]; kernel_rfl) (by simp) ?_
        refine AllReadyIn.cons h0 (fun K hK => ?_) (AllReadyIn.cons h2 (fun K hK => ?_) (AllReadyIn.cons h5 (fun K hK => ?_) (AllReadyIn.nil)))
        · simp only [List.setIfInBounds_toArray, List.set_cons_zero, List.set_cons_succ] at hK
          go_simp
          exact hK _ _ (s_01 Y hXY)
        · simp only [List.setIfInBounds_toArray, List.set_cons_zero, List.set_cons_succ] at hK
          go_simp
          exact hK _ _ (s_12 Y hXY)
        · simp only [List.setIfInBounds_toArray, List.set_cons_zero, List.set_cons_succ] at hK
          go_simp
          exact hK _ _ (s_15 _ Y.heap.size (hXY.trans (balloc (Below.refl _ _) _ |>.mono hXY.size)) (Blk.new _ _ _) hXY.size)
      have s_2 : ∀ (Y : World), Below X.heap.size X Y → wpAnyIn Fence.wide (20 - 1 - 1) Tryd.prog .any ops Q 9 #[false, false, true, false, false, false, false, false, false, false] { tmps := #[.func (.func 84) #[] #[.pointer (some ⟨R2, 0, none⟩)], .func (.func 75) #[] #[.pointer (some ⟨R, 0, none⟩)], undef, .pointer (some ⟨O, 0, none⟩), .slice none 0 0, .pointer (some ⟨O + 1, 0, none⟩), .pointer (some ⟨g, 0, none⟩), .func (.func 84) #[] #[.pointer (some ⟨R2, 0, none⟩)], .agg #[.int .i64 (k : Nat), .slice y m c], undef, undef, .agg #[.int .i64 (k : Nat), .slice y m c], undef, undef, undef, undef, undef, undef], defers := [] } Y := by
        intro Y hXY
        have cL := (hXY.cell (p := ⟨O + 1, 0, none⟩) hLl).trans HC0.out.1
        have cO := (hXY.cell (p := ⟨O, 0, none⟩) hOl).trans HC0.out.2.1
        have cG0 := (hXY.cell (p := ⟨g, 0, none⟩) hGl).trans HC0.out.2.2.1
        have cG1 := (hXY.cell (p := ⟨g, 1, none⟩) hGl).trans HC0.out.2.2.2
        refine wpAnyIn_ready (rs := [0, 1, 5]) (by rw [← Hops.out]; kernel_rfl) (by simp) ?_
        refine AllReadyIn.cons h0 (fun K hK => ?_) (AllReadyIn.cons h1 (fun K hK => ?_) (AllReadyIn.cons h5 (fun K hK => ?_) (AllReadyIn.nil)))
        · simp only [List.setIfInBounds_toArray, List.set_cons_zero, List.set_cons_succ] at hK
          go_simp
          exact hK _ _ (s_02 Y hXY)
        · simp only [List.setIfInBounds_toArray, List.set_cons_zero, List.set_cons_succ] at hK
          go_simp
          exact hK _ _ (s_12 Y hXY)
        · simp only [List.setIfInBounds_toArray, List.set_cons_zero, List.set_cons_succ] at hK
          go_simp
          exact hK _ _ (s_25 _ Y.heap.size (hXY.trans (balloc (Below.refl _ _) _ |>.mono hXY.size)) (Blk.new _ _ _) hXY.size)
      have s_5 : ∀ (Y : World) (Z : Nat), Below X.heap.size X Y → Blk Y Z 25 #[.bool false, .slice none 0 0, .slice none 0 0] → X.heap.size ≤ Z → wpAnyIn Fence.wide (20 - 1 - 1) Tryd.prog .any ops Q 9 #[false, false, false, false, false, true, false, false, false, false] { tmps := #[.func (.func 84) #[] #[.pointer (some ⟨R2, 0, none⟩)], .func (.func 75) #[] #[.pointer (some ⟨R, 0, none⟩)], undef, .pointer (some ⟨O, 0, none⟩), .slice none 0 0, .pointer (some ⟨O + 1, 0, none⟩), .pointer (some ⟨g, 0, none⟩), .func (.func 84) #[] #[.pointer (some ⟨R2, 0, none⟩)], .agg #[.int .i64 (k : Nat), .slice y m c], undef, undef, undef, undef, undef, .slice (some ⟨Z, 0, none⟩) 1 1, undef, undef, undef], defers := [] } Y := by
        intro Y Z hXY hZ hZX
        have cL := (hXY.cell (p := ⟨O + 1, 0, none⟩) hLl).trans HC0.out.1
        have cO := (hXY.cell (p := ⟨O, 0, none⟩) hOl).trans HC0.out.2.1
        have cG0 := (hXY.cell (p := ⟨g, 0, none⟩) hGl).trans HC0.out.2.2.1
        have cG1 := (hXY.cell (p := ⟨g, 1, none⟩) hGl).trans HC0.out.2.2.2
        refine wpAnyIn_ready (rs := [0, 1, 2]) (by rw [← Hops.out]; kernel_rfl) (by simp) ?_
        refine AllReadyIn.cons h0 (fun K hK => ?_) (AllReadyIn.cons h1 (fun K hK => ?_) (AllReadyIn.cons h2 (fun K hK => ?_) (AllReadyIn.nil)))
        · simp only [List.setIfInBounds_toArray, List.set_cons_zero, List.set_cons_succ] at hK
          go_simp
          exact hK _ _ (s_05 Y Z hXY hZ hZX)
        · simp only [List.setIfInBounds_toArray, List.set_cons_zero, List.set_cons_succ] at hK
          go_simp
          exact hK _ _ (s_15 Y Z hXY hZ hZX)
        · simp only [List.setIfInBounds_toArray, List.set_cons_zero, List.set_cons_succ] at hK
          go_simp
          exact hK _ _ (s_25 Y Z hXY hZ hZX)
      have s_e : ∀ (Y : World), Below X.heap.size X Y → wpAnyIn Fence.wide (20 - 1 - 1) Tryd.prog .any ops Q 10 #[false, false, false, false, false, false, false, false, false, false] { tmps := #[.func (.func 84) #[] #[.pointer (some ⟨R2, 0, none⟩)], .func (.func 75) #[] #[.pointer (some ⟨R, 0, none⟩)], undef, .pointer (some ⟨O, 0, none⟩), .slice none 0 0, .pointer (some ⟨O + 1, 0, none⟩), .pointer (some ⟨g, 0, none⟩), .func (.func 84) #[] #[.pointer (some ⟨R2, 0, none⟩)], .agg #[.int .i64 (k : Nat), .slice y m c], undef, undef, undef, undef, undef, undef, undef, undef, undef], defers := [] } Y := by
        intro Y hXY
        have cL := (hXY.cell (p := ⟨O + 1, 0, none⟩) hLl).trans HC0.out.1
        have cO := (hXY.cell (p := ⟨O, 0, none⟩) hOl).trans HC0.out.2.1
        have cG0 := (hXY.cell (p := ⟨g, 0, none⟩) hGl).trans HC0.out.2.2.1
        have cG1 := (hXY.cell (p := ⟨g, 1, none⟩) hGl).trans HC0.out.2.2.2
        refine wpAnyIn_ready (rs := [0, 1, 2, 5]) (by rw [← Hops.out]; kernel_rfl) (by simp) ?_
        refine AllReadyIn.cons h0 (fun K hK => ?_) (AllReadyIn.cons h1 (fun K hK => ?_) (AllReadyIn.cons h2 (fun K hK => ?_) (AllReadyIn.cons h5 (fun K hK => ?_) (AllReadyIn.nil))))
        · simp only [List.setIfInBounds_toArray, List.set_cons_zero, List.set_cons_succ] at hK
          go_simp
          exact hK _ _ (s_0 Y hXY)
        · simp only [List.setIfInBounds_toArray, List.set_cons_zero, List.set_cons_succ] at hK
          go_simp
          exact hK _ _ (s_1 Y hXY)
        · simp only [List.setIfInBounds_toArray, List.set_cons_zero, List.set_cons_succ] at hK
          go_simp
          exact hK _ _ (s_2 Y hXY)
        · simp only [List.setIfInBounds_toArray, List.set_cons_zero, List.set_cons_succ] at hK
          go_simp
          exact hK _ _ (s_5 _ Y.heap.size (hXY.trans (balloc (Below.refl _ _) _ |>.mono hXY.size)) (Blk.new _ _ _) hXY.size)
      exact s_e X.drew (Below.refl _ _).drew
    · have hpl2 : pre.length = ts.length := by
        have h1 := h10
        omega
      have hXs : O + 4 ≤ X.heap.size := by obtain ⟨r, hr⟩ := hlo; have := (Array.getElem?_eq_some_iff.1 hr).1; have := HSZ.out; omega
      have hcall : ∀ Y, Below X.heap.size X Y → Calls Tryd.prog 75 #[.agg #[.int .i64 (kd pre.length : Nat), .slice y (bd pre.length).length c], .pointer (some ⟨R, 0, none⟩)] Y fun e w' => e = .panicked ch160 ∧ Below Y.heap.size Y w' := fun Y hY => by
        rw [hpl2] at hpre hb ⊢
        exact HF.out y c Y hpre (hWR.trans (h7.trans (hY.mono (by omega)))) (h2.keep hY) ((hb.below hB h7).new hY)
      have HCall := Lib.hid hcall
      have hLl : O + 1 < X.heap.size := h4.lt
      have hOl : O < X.heap.size := h3.lt
      have hGl : g < X.heap.size := hG.lt
      have HC0 := Lib.hid (show X.cell? ⟨O + 1, 0, none⟩ = some (.slice xl pre.length cl) ∧ X.cell? ⟨O, 0, none⟩ = some (.func (.func 75) #[] #[.pointer (some ⟨R, 0, none⟩)]) ∧ X.cell? ⟨g, 0, none⟩ = some (.int .i64 (kd pre.length : Nat)) ∧ X.cell? ⟨g, 1, none⟩ = some (.slice y (bd pre.length).length c) from ⟨cell_of_row _ _ 0 _ _ _ h4, cell_of_row _ _ 0 _ _ _ h3, cell_of_row _ _ 0 _ _ _ hG, cell_of_row _ _ 1 _ _ _ hG⟩)
      have HPan := Lib.hid (fun (Y : World) (h : Below X.heap.size X Y) => And.intro (show KeptM (fun k => k = R2 ∨ k = W0.heap.size ∨ k = W0.heap.size + 1) X Y from KeptM.new h) (hWR.trans (h7.trans (h.mono (by omega)))))
      obtain ⟨k, hk⟩ : ∃ k, kd pre.length = k := ⟨_, rfl⟩
      obtain ⟨m, hm⟩ : ∃ m, (bd pre.length).length = m := ⟨_, rfl⟩
      rw [hk, hm] at HCall HC0
      rw [hk, hm]
      clear hcall hb h2 h3 h4 h5 h6 h6' h6'' h7 h12 hG hlo hpre hl2 hpl2
      gi_wp2_with fail
      refine wpIn_region_round l2 (by kernel_rfl) (by kernel_rfl) ?_
      refine any_gen 10 #[false, false, false, false, false, false, false, false, false, false] rfl rfl (fun ops Q hops hQ => ?_)
      have Hops := Lib.hid hops.out
      have h0 := congrArg (fun o : Array Oper => o[0]?) hops.out.symm
      have h1 := congrArg (fun o : Array Oper => o[1]?) hops.out.symm
      have h2 := congrArg (fun o : Array Oper => o[2]?) hops.out.symm
      have h3 := congrArg (fun o : Array Oper => o[3]?) hops.out.symm
      have h4 := congrArg (fun o : Array Oper => o[4]?) hops.out.symm
      have h5 := congrArg (fun o : Array Oper => o[5]?) hops.out.symm
      have h6 := congrArg (fun o : Array Oper => o[6]?) hops.out.symm
      have h7 := congrArg (fun o : Array Oper => o[7]?) hops.out.symm
      have h8 := congrArg (fun o : Array Oper => o[8]?) hops.out.symm
      have h9 := congrArg (fun o : Array Oper => o[9]?) hops.out.symm
      simp only [List.getElem?_toArray, List.getElem?_cons_zero, List.getElem?_cons_succ] at h0 h1 h2 h3 h4 h5 h6 h7 h8 h9
      clear hops
      have s_01245 : ∀ (Y : World) (Z : Nat), Below X.heap.size X Y → wpAnyIn Fence.wide (20 - 1 - 1) Tryd.prog .any ops Q 5 #[true, true, true, false, true, true, false, false, false, false] { tmps := #[.func (.func 84) #[] #[.pointer (some ⟨R2, 0, none⟩)], .func (.func 75) #[] #[.pointer (some ⟨R, 0, none⟩)], undef, .pointer (some ⟨O, 0, none⟩), .slice none 0 0, .pointer (some ⟨O + 1, 0, none⟩), .pointer (some ⟨g, 0, none⟩), .func (.func 84) #[] #[.pointer (some ⟨R2, 0, none⟩)], .agg #[.int .i64 (k : Nat), .slice y m c], .slice xl pre.length cl, .func (.func 75) #[] #[.pointer (some ⟨R, 0, none⟩)], .agg #[.int .i64 (k : Nat), .slice y m c], undef, .int .i64 (pre.length : Nat), .slice (some ⟨Z, 0, none⟩) 1 1, undef, undef, undef], defers := [] } Y := by
        intro Y Z hXY
        have cL := (hXY.cell (p := ⟨O + 1, 0, none⟩) hLl).trans HC0.out.1
        have cO := (hXY.cell (p := ⟨O, 0, none⟩) hOl).trans HC0.out.2.1
        have cG0 := (hXY.cell (p := ⟨g, 0, none⟩) hGl).trans HC0.out.2.2.1
        have cG1 := (hXY.cell (p := ⟨g, 1, none⟩) hGl).trans HC0.out.2.2.2
        refine wpAnyIn_ready (rs := [3]) (by rw [← Hops.out]; kernel_rfl) (by simp) ?_
        refine AllReadyIn.cons h3 (fun K hK => ?_) (AllReadyIn.nil)
        · go_simp
          refine ⟨trivial, (callsIn_wide.2 (HCall.out Y hXY)).mono ?_⟩
          rintro e wk ⟨rfl, hk⟩
          rw [← hQ.out]
          exact ⟨rfl, rfl, HPan.out wk (hXY.trans (hk.mono hXY.size))⟩
      have s_0124 : ∀ (Y : World), Below X.heap.size X Y → wpAnyIn Fence.wide (20 - 1 - 1) Tryd.prog .any ops Q 6 #[true, true, true, false, true, false, false, false, false, false] { tmps := #[.func (.func 84) #[] #[.pointer (some ⟨R2, 0, none⟩)], .func (.func 75) #[] #[.pointer (some ⟨R, 0, none⟩)], undef, .pointer (some ⟨O, 0, none⟩), .slice none 0 0, .pointer (some ⟨O + 1, 0, none⟩), .pointer (some ⟨g, 0, none⟩), .func (.func 84) #[] #[.pointer (some ⟨R2, 0, none⟩)], .agg #[.int .i64 (k : Nat), .slice y m c], .slice xl pre.length cl, .func (.func 75) #[] #[.pointer (some ⟨R, 0, none⟩)], .agg #[.int .i64 (k : Nat), .slice y m c], undef, .int .i64 (pre.length : Nat), undef, undef, undef, undef], defers := [] } Y := by
        intro Y hXY
        have cL := (hXY.cell (p := ⟨O + 1, 0, none⟩) hLl).trans HC0.out.1
        have cO := (hXY.cell (p := ⟨O, 0, none⟩) hOl).trans HC0.out.2.1
        have cG0 := (hXY.cell (p := ⟨g, 0, none⟩) hGl).trans HC0.out.2.2.1
        have cG1 := (hXY.cell (p := ⟨g, 1, none⟩) hGl).trans HC0.out.2.2.2
        refine wpAnyIn_ready (rs := [3, 5]) (by rw [← Hops.out]; kernel_rfl) (by simp) ?_
        refine AllReadyIn.cons h3 (fun K hK => ?_) (AllReadyIn.cons h5 (fun K hK => ?_) (AllReadyIn.nil))
        · go_simp
          refine ⟨trivial, (callsIn_wide.2 (HCall.out Y hXY)).mono ?_⟩
          rintro e wk ⟨rfl, hk⟩
          rw [← hQ.out]
          exact ⟨rfl, rfl, HPan.out wk (hXY.trans (hk.mono hXY.size))⟩
        · simp only [List.setIfInBounds_toArray, List.set_cons_zero, List.set_cons_succ] at hK
          go_simp
          exact hK _ _ (s_01245 _ Y.heap.size (hXY.trans (balloc (Below.refl _ _) _ |>.mono hXY.size)))
      have s_0125 : ∀ (Y : World) (Z : Nat), Below X.heap.size X Y → wpAnyIn Fence.wide (20 - 1 - 1) Tryd.prog .any ops Q 6 #[true, true, true, false, false, true, false, false, false, false] { tmps := #[.func (.func 84) #[] #[.pointer (some ⟨R2, 0, none⟩)], .func (.func 75) #[] #[.pointer (some ⟨R, 0, none⟩)], undef, .pointer (some ⟨O, 0, none⟩), .slice none 0 0, .pointer (some ⟨O + 1, 0, none⟩), .pointer (some ⟨g, 0, none⟩), .func (.func 84) #[] #[.pointer (some ⟨R2, 0, none⟩)], .agg #[.int .i64 (k : Nat), .slice y m c], .slice xl pre.length cl, .func (.func 75) #[] #[.pointer (some ⟨R, 0, none⟩)], .agg #[.int .i64 (k : Nat), .slice y m c], undef, undef, .slice (some ⟨Z, 0, none⟩) 1 1, undef, undef, undef], defers := [] } Y := by
        intro Y Z hXY
        have cL := (hXY.cell (p := ⟨O + 1, 0, none⟩) hLl).trans HC0.out.1
        have cO := (hXY.cell (p := ⟨O, 0, none⟩) hOl).trans HC0.out.2.1
        have cG0 := (hXY.cell (p := ⟨g, 0, none⟩) hGl).trans HC0.out.2.2.1
        have cG1 := (hXY.cell (p := ⟨g, 1, none⟩) hGl).trans HC0.out.2.2.2
        refine wpAnyIn_ready (rs := [3, 4]) (by rw [← Hops.out]; kernel_rfl) (by simp) ?_
        refine AllReadyIn.cons h3 (fun K hK => ?_) (AllReadyIn.cons h4 (fun K hK => ?_) (AllReadyIn.nil))
        · go_simp
          refine ⟨trivial, (callsIn_wide.2 (HCall.out Y hXY)).mono ?_⟩
          rintro e wk ⟨rfl, hk⟩
          rw [← hQ.out]
          exact ⟨rfl, rfl, HPan.out wk (hXY.trans (hk.mono hXY.size))⟩
        · simp only [List.setIfInBounds_toArray, List.set_cons_zero, List.set_cons_succ] at hK
          go_simp
          exact hK _ _ (s_01245 Y Z hXY)
      have s_0145 : ∀ (Y : World) (Z : Nat), Below X.heap.size X Y → wpAnyIn Fence.wide (20 - 1 - 1) Tryd.prog .any ops Q 6 #[true, true, false, false, true, true, false, false, false, false] { tmps := #[.func (.func 84) #[] #[.pointer (some ⟨R2, 0, none⟩)], .func (.func 75) #[] #[.pointer (some ⟨R, 0, none⟩)], undef, .pointer (some ⟨O, 0, none⟩), .slice none 0 0, .pointer (some ⟨O + 1, 0, none⟩), .pointer (some ⟨g, 0, none⟩), .func (.func 84) #[] #[.pointer (some ⟨R2, 0, none⟩)], .agg #[.int .i64 (k : Nat), .slice y m c], .slice xl pre.length cl, .func (.func 75) #[] #[.pointer (some ⟨R, 0, none⟩)], undef, undef, .int .i64 (pre.length : Nat), .slice (some ⟨Z, 0, none⟩) 1 1, undef, undef, undef], defers := [] } Y := by
        intro Y Z hXY
        have cL := (hXY.cell (p := ⟨O + 1, 0, none⟩) hLl).trans HC0.out.1
        have cO := (hXY.cell (p := ⟨O, 0, none⟩) hOl).trans HC0.out.2.1
        have cG0 := (hXY.cell (p := ⟨g, 0, none⟩) hGl).trans HC0.out.2.2.1
        have cG1 := (hXY.cell (p := ⟨g, 1, none⟩) hGl).trans HC0.out.2.2.2
        refine wpAnyIn_ready (rs := [2]) (by rw [← Hops.out]; kernel_rfl) (by simp) ?_
        refine AllReadyIn.cons h2 (fun K hK => ?_) (AllReadyIn.nil)
        · simp only [List.setIfInBounds_toArray, List.set_cons_zero, List.set_cons_succ] at hK
          go_simp
          exact hK _ _ (s_01245 Y Z hXY)
      have s_0245 : ∀ (Y : World) (Z : Nat), Below X.heap.size X Y → wpAnyIn Fence.wide (20 - 1 - 1) Tryd.prog .any ops Q 6 #[true, false, true, false, true, true, false, false, false, false] { tmps := #[.func (.func 84) #[] #[.pointer (some ⟨R2, 0, none⟩)], .func (.func 75) #[] #[.pointer (some ⟨R, 0, none⟩)], undef, .pointer (some ⟨O, 0, none⟩), .slice none 0 0, .pointer (some ⟨O + 1, 0, none⟩), .pointer (some ⟨g, 0, none⟩), .func (.func 84) #[] #[.pointer (some ⟨R2, 0, none⟩)], .agg #[.int .i64 (k : Nat), .slice y m c], .slice xl pre.length cl, undef, .agg #[.int .i64 (k : Nat), .slice y m c], undef, .int .i64 (pre.length : Nat), .slice (some ⟨Z, 0, none⟩) 1 1, undef, undef, undef], defers := [] } Y := by
        intro Y Z hXY
        have cL := (hXY.cell (p := ⟨O + 1, 0, none⟩) hLl).trans HC0.out.1
        have cO := (hXY.cell (p := ⟨O, 0, none⟩) hOl).trans HC0.out.2.1
        have cG0 := (hXY.cell (p := ⟨g, 0, none⟩) hGl).trans HC0.out.2.2.1
        have cG1 := (hXY.cell (p := ⟨g, 1, none⟩) hGl).trans HC0.out.2.2.2
        refine wpAnyIn_ready (rs := [1]) (by rw [← Hops.out]; kernel_rfl) (by simp) ?_
        refine AllReadyIn.cons h1 (fun K hK => ?_) (AllReadyIn.nil)
        · simp only [List.setIfInBounds_toArray, List.set_cons_zero, List.set_cons_succ] at hK
          go_simp
          exact hK _ _ (s_01245 Y Z hXY)
      have s_012 : ∀ (Y : World), Below X.heap.size X Y → wpAnyIn Fence.wide (20 - 1 - 1) Tryd.prog .any ops Q 7 #[true, true, true, false, false, false, false, false, false, false] { tmps := #[.func (.func 84) #[] #[.pointer (some ⟨R2, 0, none⟩)], .func (.func 75) #[] #[.pointer (some ⟨R, 0, none⟩)], undef, .pointer (some ⟨O, 0, none⟩), .slice none 0 0, .pointer (some ⟨O + 1, 0, none⟩), .pointer (some ⟨g, 0, none⟩), .func (.func 84) #[] #[.pointer (some ⟨R2, 0, none⟩)], .agg #[.int .i64 (k : Nat), .slice y m c], .slice xl pre.length cl, .func (.func 75) #[] #[.pointer (some ⟨R, 0, none⟩)], .agg #[.int .i64 (k : Nat), .slice y m c], undef, undef, undef, undef, undef, undef], defers := [] } Y := by
        intro Y hXY
        have cL := (hXY.cell (p := ⟨O + 1, 0, none⟩) hLl).trans HC0.out.1
        have cO := (hXY.cell (p := ⟨O, 0, none⟩) hOl).trans HC0.out.2.1
        have cG0 := (hXY.cell (p := ⟨g, 0, none⟩) hGl).trans HC0.out.2.2.1
        have cG1 := (hXY.cell (p := ⟨g, 1, none⟩) hGl).trans HC0.out.2.2.2
        refine wpAnyIn_ready (rs := [3, 4, 5]) (by rw [← Hops.out]; kernel_rfl) (by simp) ?_
        refine AllReadyIn.cons h3 (fun K hK => ?_) (AllReadyIn.cons h4 (fun K hK => ?_) (AllReadyIn.cons h5 (fun K hK => ?_) (AllReadyIn.nil)))
        · go_simp
          refine ⟨trivial, (callsIn_wide.2 (HCall.out Y hXY)).mono ?_⟩
          rintro e wk ⟨rfl, hk⟩
          rw [← hQ.out]
          exact ⟨rfl, rfl, HPan.out wk (hXY.trans (hk.mono hXY.size))⟩
        · simp only [List.setIfInBounds_toArray, List.set_cons_zero, List.set_cons_succ] at hK
          go_simp
          exact hK _ _ (s_0124 Y hXY)
        · simp only [List.setIfInBounds_toArray, List.set_cons_zero, List.set_cons_succ] at hK
          go_simp
          exact hK _ _ (s_0125 _ Y.heap.size (hXY.trans (balloc (Below.refl _ _) _ |>.mono hXY.size)))
      have s_014 : ∀ (Y : World), Below X.heap.size X Y → wpAnyIn Fence.wide (20 - 1 - 1) Tryd.prog .any ops Q 7 #[true, true, false, false, true, false, false, false, false, false] { tmps := #[.func (.func 84) #[] #[.pointer (some ⟨R2, 0, none⟩)], .func (.func 75) #[] #[.pointer (some ⟨R, 0, none⟩)], undef, .pointer (some ⟨O, 0, none⟩), .slice none 0 0, .pointer (some ⟨O + 1, 0, none⟩), .pointer (some ⟨g, 0, none⟩), .func (.func 84) #[] #[.pointer (some ⟨R2, 0, none⟩)], .agg #[.int .i64 (k : Nat), .slice y m c], .slice xl pre.length cl, .func (.func 75) #[] #[.pointer (some ⟨R, 0, none⟩)], undef, undef, .int .i64 (pre.length : Nat), undef, undef, undef, undef], defers := [] } Y := by
        intro Y hXY
        have cL := (hXY.cell (p := ⟨O + 1, 0, none⟩) hLl).trans HC0.out.1
        have cO := (hXY.cell (p := ⟨O, 0, none⟩) hOl).trans HC0.out.2.1
        have cG0 := (hXY.cell (p := ⟨g, 0, none⟩) hGl).trans HC0.out.2.2.1
        have cG1 := (hXY.cell (p := ⟨g, 1, none⟩) hGl).trans HC0.out.2.2.2
        refine wpAnyIn_ready (rs := [2, 5]) (by rw [← Hops.out]; kernel_rfl) (by simp) ?_
        refine AllReadyIn.cons h2 (fun K hK => ?_) (AllReadyIn.cons h5 (fun K hK => ?_) (AllReadyIn.nil))
        · simp only [List.setIfInBounds_toArray, List.set_cons_zero, List.set_cons_succ] at hK
          go_simp
          exact hK _ _ (s_0124 Y hXY)
        · simp only [List.setIfInBounds_toArray, List.set_cons_zero, List.set_cons_succ] at hK
          go_simp
          exact hK _ _ (s_0145 _ Y.heap.size (hXY.trans (balloc (Below.refl _ _) _ |>.mono hXY.size)))
      have s_015 : ∀ (Y : World) (Z : Nat), Below X.heap.size X Y → wpAnyIn Fence.wide (20 - 1 - 1) Tryd.prog .any ops Q 7 #[true, true, false, false, false, true, false, false, false, false] { tmps := #[.func (.func 84) #[] #[.pointer (some ⟨R2, 0, none⟩)], .func (.func 75) #[] #[.pointer (some ⟨R, 0, none⟩)], undef, .pointer (some ⟨O, 0, none⟩), .slice none 0 0, .pointer (some ⟨O + 1, 0, none⟩), .pointer (some ⟨g, 0, none⟩), .func (.func 84) #[] #[.pointer (some ⟨R2, 0, none⟩)], .agg #[.int .i64 (k : Nat), .slice y m c], .slice xl pre.length cl, .func (.func 75) #[] #[.pointer (some ⟨R, 0, none⟩)], undef, undef, undef, .slice (some ⟨Z, 0, none⟩) 1 1, undef, undef, undef], defers := [] } Y := by
        intro Y Z hXY
        have cL := (hXY.cell (p := ⟨O + 1, 0, none⟩) hLl).trans HC0.out.1
        have cO := (hXY.cell (p := ⟨O, 0, none⟩) hOl).trans HC0.out.2.1
        have cG0 := (hXY.cell (p := ⟨g, 0, none⟩) hGl).trans HC0.out.2.2.1
        have cG1 := (hXY.cell (p := ⟨g, 1, none⟩) hGl).trans HC0.out.2.2.2
        refine wpAnyIn_ready (rs := [2, 4]) (by rw [← Hops.out]; kernel_rfl) (by simp) ?_
        refine AllReadyIn.cons h2 (fun K hK => ?_) (AllReadyIn.cons h4 (fun K hK => ?_) (AllReadyIn.nil))
        · simp only [List.setIfInBounds_toArray, List.set_cons_zero, List.set_cons_succ] at hK
          go_simp
          exact hK _ _ (s_0125 Y Z hXY)
        · simp only [List.setIfInBounds_toArray, List.set_cons_zero, List.set_cons_succ] at hK
          go_simp
          exact hK _ _ (s_0145 Y Z hXY)
      have s_024 : ∀ (Y : World), Below X.heap.size X Y → wpAnyIn Fence.wide (20 - 1 - 1) Tryd.prog .any ops Q 7 #[true, false, true, false, true, false, false, false, false, false] { tmps := #[.func (.func 84) #[] #[.pointer (some ⟨R2, 0, none⟩)], .func (.func 75) #[] #[.pointer (some ⟨R, 0, none⟩)], undef, .pointer (some ⟨O, 0, none⟩), .slice none 0 0, .pointer (some ⟨O + 1, 0, none⟩), .pointer (some ⟨g, 0, none⟩), .func (.func 84) #[] #[.pointer (some ⟨R2, 0, none⟩)], .agg #[.int .i64 (k : Nat), .slice y m c], .slice xl pre.length cl, undef, .agg #[.int .i64 (k : Nat), .slice y m c], undef, .int .i64 (pre.length : Nat), undef, undef, undef, undef], defers := [] } Y := by
        intro Y hXY
        have cL := (hXY.cell (p := ⟨O + 1, 0, none⟩) hLl).trans HC0.out.1
        have cO := (hXY.cell (p := ⟨O, 0, none⟩) hOl).trans HC0.out.2.1
        have cG0 := (hXY.cell (p := ⟨g, 0, none⟩) hGl).trans HC0.out.2.2.1
        have cG1 := (hXY.cell (p := ⟨g, 1, none⟩) hGl).trans HC0.out.2.2.2
        refine wpAnyIn_ready (rs := [1, 5]) (by rw [← Hops.out]; kernel_rfl) (by simp) ?_
        refine AllReadyIn.cons h1 (fun K hK => ?_) (AllReadyIn.cons h5 (fun K hK => ?_) (AllReadyIn.nil))
        · simp only [List.setIfInBounds_toArray, List.set_cons_zero, List.set_cons_succ] at hK
          go_simp
          exact hK _ _ (s_0124 Y hXY)
        · simp only [List.setIfInBounds_toArray, List.set_cons_zero, List.set_cons_succ] at hK
          go_simp
          exact hK _ _ (s_0245 _ Y.heap.size (hXY.trans (balloc (Below.refl _ _) _ |>.mono hXY.size)))
      have s_025 : ∀ (Y : World) (Z : Nat), Below X.heap.size X Y → wpAnyIn Fence.wide (20 - 1 - 1) Tryd.prog .any ops Q 7 #[true, false, true, false, false, true, false, false, false, false] { tmps := #[.func (.func 84) #[] #[.pointer (some ⟨R2, 0, none⟩)], .func (.func 75) #[] #[.pointer (some ⟨R, 0, none⟩)], undef, .pointer (some ⟨O, 0, none⟩), .slice none 0 0, .pointer (some ⟨O + 1, 0, none⟩), .pointer (some ⟨g, 0, none⟩), .func (.func 84) #[] #[.pointer (some ⟨R2, 0, none⟩)], .agg #[.int .i64 (k : Nat), .slice y m c], .slice xl pre.length cl, undef, .agg #[.int .i64 (k : Nat), .slice y m c], undef, undef, .slice (some ⟨Z, 0, none⟩) 1 1, undef, undef, undef], defers := [] } Y := by
        intro Y Z hXY
        have cL := (hXY.cell (p := ⟨O + 1, 0, none⟩) hLl).trans HC0.out.1
        have cO := (hXY.cell (p := ⟨O, 0, none⟩) hOl).trans HC0.out.2.1
        have cG0 := (hXY.cell (p := ⟨g, 0, none⟩) hGl).trans HC0.out.2.2.1
        have cG1 := (hXY.cell (p := ⟨g, 1, none⟩) hGl).trans HC0.out.2.2.2
        refine wpAnyIn_ready (rs := [1, 4]) (by rw [← Hops.out]; kernel_rfl) (by simp) ?_
        refine AllReadyIn.cons h1 (fun K hK => ?_) (AllReadyIn.cons h4 (fun K hK => ?_) (AllReadyIn.nil))
        · simp only [List.setIfInBounds_toArray, List.set_cons_zero, List.set_cons_succ] at hK
          go_simp
          exact hK _ _ (s_0125 Y Z hXY)
        · simp only [List.setIfInBounds_toArray, List.set_cons_zero, List.set_cons_succ] at hK
          go_simp
          exact hK _ _ (s_0245 Y Z hXY)
      have s_045 : ∀ (Y : World) (Z : Nat), Below X.heap.size X Y → wpAnyIn Fence.wide (20 - 1 - 1) Tryd.prog .any ops Q 7 #[true, false, false, false, true, true, false, false, false, false] { tmps := #[.func (.func 84) #[] #[.pointer (some ⟨R2, 0, none⟩)], .func (.func 75) #[] #[.pointer (some ⟨R, 0, none⟩)], undef, .pointer (some ⟨O, 0, none⟩), .slice none 0 0, .pointer (some ⟨O + 1, 0, none⟩), .pointer (some ⟨g, 0, none⟩), .func (.func 84) #[] #[.pointer (some ⟨R2, 0, none⟩)], .agg #[.int .i64 (k : Nat), .slice y m c], .slice xl pre.length cl, undef, undef, undef, .int .i64 (pre.length : Nat), .slice (some ⟨Z, 0, none⟩) 1 1, undef, undef, undef], defers := [] } Y := by
        intro Y Z hXY
        have cL := (hXY.cell (p := ⟨O + 1, 0, none⟩) hLl).trans HC0.out.1
        have cO := (hXY.cell (p := ⟨O, 0, none⟩) hOl).trans HC0.out.2.1
        have cG0 := (hXY.cell (p := ⟨g, 0, none⟩) hGl).trans HC0.out.2.2.1
        have cG1 := (hXY.cell (p := ⟨g, 1, none⟩) hGl).trans HC0.out.2.2.2
        refine wpAnyIn_ready (rs := [1, 2]) (by rw [← Hops.out]; kernel_rfl) (by simp) ?_
        refine AllReadyIn.cons h1 (fun K hK => ?_) (AllReadyIn.cons h2 (fun K hK => ?_) (AllReadyIn.nil))
        · simp only [List.setIfInBounds_toArray, List.set_cons_zero, List.set_cons_succ] at hK
          go_simp
          exact hK _ _ (s_0145 Y Z hXY)
        · simp only [List.setIfInBounds_toArray, List.set_cons_zero, List.set_cons_succ] at hK
          go_simp
          exact hK _ _ (s_0245 Y Z hXY)
      have s_125 : ∀ (Y : World) (Z : Nat), Below X.heap.size X Y → wpAnyIn Fence.wide (20 - 1 - 1) Tryd.prog .any ops Q 7 #[false, true, true, false, false, true, false, false, false, false] { tmps := #[.func (.func 84) #[] #[.pointer (some ⟨R2, 0, none⟩)], .func (.func 75) #[] #[.pointer (some ⟨R, 0, none⟩)], undef, .pointer (some ⟨O, 0, none⟩), .slice none 0 0, .pointer (some ⟨O + 1, 0, none⟩), .pointer (some ⟨g, 0, none⟩), .func (.func 84) #[] #[.pointer (some ⟨R2, 0, none⟩)], .agg #[.int .i64 (k : Nat), .slice y m c], undef, .func (.func 75) #[] #[.pointer (some ⟨R, 0, none⟩)], .agg #[.int .i64 (k : Nat), .slice y m c], undef, undef, .slice (some ⟨Z, 0, none⟩) 1 1, undef, undef, undef], defers := [] } Y := by
        intro Y Z hXY
        have cL := (hXY.cell (p := ⟨O + 1, 0, none⟩) hLl).trans HC0.out.1
        have cO := (hXY.cell (p := ⟨O, 0, none⟩) hOl).trans HC0.out.2.1
        have cG0 := (hXY.cell (p := ⟨g, 0, none⟩) hGl).trans HC0.out.2.2.1
        have cG1 := (hXY.cell (p := ⟨g, 1, none⟩) hGl).trans HC0.out.2.2.2
        refine wpAnyIn_ready (rs := [0, 3]) (by rw [← Hops.out]; kernel_rfl) (by simp) ?_
        refine AllReadyIn.cons h0 (fun K hK => ?_) (AllReadyIn.cons h3 (fun K hK => ?_) (AllReadyIn.nil))
        · simp only [List.setIfInBounds_toArray, List.set_cons_zero, List.set_cons_succ] at hK
          go_simp
          exact hK _ _ (s_0125 Y Z hXY)
        · go_simp
          refine ⟨trivial, (callsIn_wide.2 (HCall.out Y hXY)).mono ?_⟩
          rintro e wk ⟨rfl, hk⟩
          rw [← hQ.out]
          exact ⟨rfl, rfl, HPan.out wk (hXY.trans (hk.mono hXY.size))⟩
      have s_01 : ∀ (Y : World), Below X.heap.size X Y → wpAnyIn Fence.wide (20 - 1 - 1) Tryd.prog .any ops Q 8 #[true, true, false, false, false, false, false, false, false, false] { tmps := #[.func (.func 84) #[] #[.pointer (some ⟨R2, 0, none⟩)], .func (.func 75) #[] #[.pointer (some ⟨R, 0, none⟩)], undef, .pointer (some ⟨O, 0, none⟩), .slice none 0 0, .pointer (some ⟨O + 1, 0, none⟩), .pointer (some ⟨g, 0, none⟩), .func (.func 84) #[] #[.pointer (some ⟨R2, 0, none⟩)], .agg #[.int .i64 (k : Nat), .slice y m c], .slice xl pre.length cl, .func (.func 75) #[] #[.pointer (some ⟨R, 0, none⟩)], undef, undef, undef, undef, undef, undef, undef], defers := [] } Y := by
        intro Y hXY
        have cL := (hXY.cell (p := ⟨O + 1, 0, none⟩) hLl).trans HC0.out.1
        have cO := (hXY.cell (p := ⟨O, 0, none⟩) hOl).trans HC0.out.2.1
        have cG0 := (hXY.cell (p := ⟨g, 0, none⟩) hGl).trans HC0.out.2.2.1
        have cG1 := (hXY.cell (p := ⟨g, 1, none⟩) hGl).trans HC0.out.2.2.2
        refine wpAnyIn_ready (rs := [2, 4, 5]) (by rw [← Hops.out]; kernel_rfl) (by simp) ?_
        refine AllReadyIn.cons h2 (fun K hK => ?_) (AllReadyIn.cons h4 (fun K hK => ?_) (AllReadyIn.cons h5 (fun K hK => ?_) (AllReadyIn.nil)))
        · simp only [List.setIfInBounds_toArray, List.set_cons_zero, List.set_cons_succ] at hK
          go_simp
          exact hK _ _ (s_012 Y hXY)
        · simp only [List.setIfInBounds_toArray, List.set_cons_zero, List.set_cons_succ] at hK
          go_simp
          exact hK _ _ (s_014 Y hXY)
        · simp only [List.setIfInBounds_toArray, List.set_cons_zero, List.set_cons_succ] at hK
          go_simp
          exact hK _ _ (s_015 _ Y.heap.size (hXY.trans (balloc (Below.refl _ _) _ |>.mono hXY.size)))
      have s_02 : ∀ (Y : World), Below X.heap.size X Y → wpAnyIn Fence.wide (20 - 1 - 1) Tryd.prog .any ops Q 8 #[true, false, true, false, false, false, false, false, false, false] { tmps := #[.func (.func 84) #[] #[.pointer (some ⟨R2, 0, none⟩)], .func (.func 75) #[] #[.pointer (some ⟨R, 0, none⟩)], undef, .pointer (some ⟨O, 0, none⟩), .slice none 0 0, .pointer (some ⟨O + 1, 0, none⟩), .pointer (some ⟨g, 0, none⟩), .func (.func 84) #[] #[.pointer (some ⟨R2, 0, none⟩)], .agg #[.int .i64 (k : Nat), .slice y m c], .slice xl pre.length cl, undef, .agg #[.int .i64 (k : Nat), .slice y m c], undef, undef, undef, undef, undef, undef], defers := [] } Y := by
        intro Y hXY
        have cL := (hXY.cell (p := ⟨O + 1, 0, none⟩) hLl).trans HC0.out.1
        have cO := (hXY.cell (p := ⟨O, 0, none⟩) hOl).trans HC0.out.2.1
        have cG0 := (hXY.cell (p := ⟨g, 0, none⟩) hGl).trans HC0.out.2.2.1
        have cG1 := (hXY.cell (p := ⟨g, 1, none⟩) hGl).trans HC0.out.2.2.2
        refine wpAnyIn_ready (rs := [1, 4, 5]) (by rw [← Hops.out]; kernel_rfl) (by simp) ?_
        refine AllReadyIn.cons h1 (fun K hK => ?_) (AllReadyIn.cons h4 (fun K hK => ?_) (AllReadyIn.cons h5 (fun K hK => ?_) (AllReadyIn.nil)))
        · simp only [List.setIfInBounds_toArray, List.set_cons_zero, List.set_cons_succ] at hK
          go_simp
          exact hK _ _ (s_012 Y hXY)
        · simp only [List.setIfInBounds_toArray, List.set_cons_zero, List.set_cons_succ] at hK
          go_simp
          exact hK _ _ (s_024 Y hXY)
        · simp only [List.setIfInBounds_toArray, List.set_cons_zero, List.set_cons_succ] at hK
          go_simp
          exact hK _ _ (s_025 _ Y.heap.size (hXY.trans (balloc (Below.refl _ _) _ |>.mono hXY.size)))
      have s_04 : ∀ (Y : World), Below X.heap.size X Y → wpAnyIn Fence.wide (20 - 1 - 1) Tryd.prog .any ops Q 8 #[true, false, false, false, true, false, false, false, false, false] { tmps := #[.func (.func 84) #[] #[.pointer (some ⟨R2, 0, none⟩)], .func (.func 75) #[] #[.pointer (some ⟨R, 0, none⟩)], undef, .pointer (some ⟨O, 0, none⟩), .slice none 0 0, .pointer (some ⟨O + 1, 0, none⟩), .pointer (some ⟨g, 0, none⟩), .func (.func 84) #[] #[.pointer (some ⟨R2, 0, none⟩)], .agg #[.int .i64 (k : Nat), .slice y m c], .slice xl pre.length cl, undef, undef, undef, .int .i64 (pre.length : Nat), undef, undef, undef, undef], defers := [] } Y := by
        intro Y hXY
        have cL := (hXY.cell (p := ⟨O + 1, 0, none⟩) hLl).trans HC0.out.1
        have cO := (hXY.cell (p := ⟨O, 0, none⟩) hOl).trans HC0.out.2.1
        have cG0 := (hXY.cell (p := ⟨g, 0, none⟩) hGl).trans HC0.out.2.2.1
        have cG1 := (hXY.cell (p := ⟨g, 1, none⟩) hGl).trans HC0.out.2.2.2
        refine wpAnyIn_ready (rs := [1, 2, 5]) (by rw [← Hops.out]; kernel_rfl) (by simp) ?_
        refine AllReadyIn.cons h1 (fun K hK => ?_) (AllReadyIn.cons h2 (fun K hK => ?_) (AllReadyIn.cons h5 (fun K hK => ?_) (AllReadyIn.nil)))
        · simp only [List.setIfInBounds_toArray, List.set_cons_zero, List.set_cons_succ] at hK
          go_simp
          exact hK _ _ (s_014 Y hXY)
        · simp only [List.setIfInBounds_toArray, List.set_cons_zero, List.set_cons_succ] at hK
          go_simp
          exact hK _ _ (s_024 Y hXY)
        · simp only [List.setIfInBounds_toArray, List.set_cons_zero, List.set_cons_succ] at hK
          go_simp
          exact hK _ _ (s_045 _ Y.heap.size (hXY.trans (balloc (Below.refl _ _) _ |>.mono hXY.size)))
      have s_05 : ∀ (Y : World) (Z : Nat), Below X.heap.size X Y → wpAnyIn Fence.wide (20 - 1 - 1) Tryd.prog .any ops Q 8 #[true, false, false, false, false, true, false, false, false, false] { tmps := #[.func (.func 84) #[] #[.pointer (some ⟨R2, 0, none⟩)], .func (.func 75) #[] #[.pointer (some ⟨R, 0, none⟩)], undef, .pointer (some ⟨O, 0, none⟩), .slice none 0 0, .pointer (some ⟨O + 1, 0, none⟩), .pointer (some ⟨g, 0, none⟩), .func (.func 84) #[] #[.pointer (some ⟨R2, 0, none⟩)], .agg #[.int .i64 (k : Nat), .slice y m c], .slice xl pre.length cl, undef, undef, undef, undef, .slice (some ⟨Z, 0, none⟩) 1 1, undef, undef, undef], defers := [] } Y := by
        intro Y Z hXY
        have cL := (hXY.cell (p := ⟨O + 1, 0, none⟩) hLl).trans HC0.out.1
        have cO := (hXY.cell (p := ⟨O, 0, none⟩) hOl).trans HC0.out.2.1
        have cG0 := (hXY.cell (p := ⟨g, 0, none⟩) hGl).trans HC0.out.2.2.1
        have cG1 := (hXY.cell (p := ⟨g, 1, none⟩) hGl).trans HC0.out.2.2.2
        refine wpAnyIn_ready (rs := [1, 2, 4]) (by rw [← Hops.out]; kernel_rfl) (by simp) ?_
        refine AllReadyIn.cons h1 (fun K hK => ?_) (AllReadyIn.cons h2 (fun K hK => ?_) (AllReadyIn.cons h4 (fun K hK => ?_) (AllReadyIn.nil)))
        · simp only [List.setIfInBounds_toArray, List.set_cons_zero, List.set_cons_succ] at hK
          go_simp
          exact hK _ _ (s_015 Y Z hXY)
        · simp only [List.setIfInBounds_toArray, List.set_cons_zero, List.set_cons_succ] at hK
          go_simp
          exact hK _ _ (s_025 Y Z hXY)
        · simp only [List.setIfInBounds_toArray, List.set_cons_zero, List.set_cons_succ] at hK
          go_simp
          exact hK _ _ (s_045 Y Z hXY)
      have s_12 : ∀ (Y : World), Below X.heap.size X Y → wpAnyIn Fence.wide (20 - 1 - 1) Tryd.prog .any ops Q 8 #[false, true, true, false, false, false, false, false, false, false] { tmps := #[.func (.func 84) #[] #[.pointer (some ⟨R2, 0, none⟩)], .func (.func 75) #[] #[.pointer (some ⟨R, 0, none⟩)], undef, .pointer (some ⟨O, 0, none⟩), .slice none 0 0, .pointer (some ⟨O + 1, 0, none⟩), .pointer (some ⟨g, 0, none⟩), .func (.func 84) #[] #[.pointer (some ⟨R2, 0, none⟩)], .agg #[.int .i64 (k : Nat), .slice y m c], undef, .func (.func 75) #[] #[.pointer (some ⟨R, 0, none⟩)], .agg #[.int .i64 (k : Nat), .slice y m c], undef, undef, undef, undef, undef, undef], defers := [] } Y := by
        intro Y hXY
        have cL := (hXY.cell (p := ⟨O + 1, 0, none⟩) hLl).trans HC0.out.1
        have cO := (hXY.cell (p := ⟨O, 0, none⟩) hOl).trans HC0.out.2.1
        have cG0 := (hXY.cell (p := ⟨g, 0, none⟩) hGl).trans HC0.out.2.2.1
        have cG1 := (hXY.cell (p := ⟨g, 1, none⟩) hGl).trans HC0.out.2.2.2
        refine wpAnyIn_ready (rs := [0, 3, 5]) (by rw [← Hops.out]; kernel_rfl) (by simp) ?_
        refine AllReadyIn.cons h0 (fun K hK => ?_) (AllReadyIn.cons h3 (fun K hK => ?_) (AllReadyIn.cons h5 (fun K hK => ?_) (AllReadyIn.nil)))
        · simp only [List.setIfInBounds_toArray, List.set_cons_zero, List.set_cons_succ] at hK
          go_simp
          exact hK _ _ (s_012 Y hXY)
        · go_simp
          refine ⟨trivial, (callsIn_wide.2 (HCall.out Y hXY)).mono ?_⟩
          rintro e wk ⟨rfl, hk⟩
          rw [← hQ.out]
          exact ⟨rfl, rfl, HPan.out wk (hXY.trans (hk.mono hXY.size))⟩
        · simp only [List.setIfInBounds_toArray, List.set_cons_zero, List.set_cons_succ] at hK
          go_simp
          exact hK _ _ (s_125 _ Y.heap.size (hXY.trans (balloc (Below.refl _ _) _ |>.mono hXY.size)))
      have s_15 : ∀ (Y : World) (Z : Nat), Below X.heap.size X Y → wpAnyIn Fence.wide (20 - 1 - 1) Tryd.prog .any ops Q 8 #[false, true, false, false, false, true, false, false, false, false] { tmps := #[.func (.func 84) #[] #[.pointer (some ⟨R2, 0, none⟩)], .func (.func 75) #[] #[.pointer (some ⟨R, 0, none⟩)], undef, .pointer (some ⟨O, 0, none⟩), .slice none 0 0, .pointer (some ⟨O + 1, 0, none⟩), .pointer (some ⟨g, 0, none⟩), .func (.func 84) #[] #[.pointer (some ⟨R2, 0, none⟩)], .agg #[.int .i64 (k : Nat), .slice y m c], undef, .func (.func 75) #[] #[.pointer (some ⟨R, 0, none⟩)], undef, undef, undef, .slice (some ⟨Z, 0, none⟩) 1 1, undef, undef, undef], defers := [] } Y := by
        intro Y Z hXY
        have cL := (hXY.cell (p := ⟨O + 1, 0, none⟩) hLl).trans HC0.out.1
        have cO := (hXY.cell (p := ⟨O, 0, none⟩) hOl).trans HC0.out.2.1
        have cG0 := (hXY.cell (p := ⟨g, 0, none⟩) hGl).trans HC0.out.2.2.1
        have cG1 := (hXY.cell (p := ⟨g, 1, none⟩) hGl).trans HC0.out.2.2.2
        refine wpAnyIn_ready (rs := [0, 2]) (by rw [← Hops.out]; kernel_rfl) (by simp) ?_
        refine AllReadyIn.cons h0 (fun K hK => ?_) (AllReadyIn.cons h2 (fun K hK => ?_) (AllReadyIn.nil))
        · simp only [List.setIfInBounds_toArray, List.set_cons_zero, List.set_cons_succ] at hK
          go_simp
          exact hK _ _ (s_015 Y Z hXY)
        · simp only [List.setIfInBounds_toArray, List.set_cons_zero, List.set_cons_succ] at hK
          go_simp
          exact hK _ _ (s_125 Y Z hXY)
      have s_25 : ∀ (Y : World) (Z : Nat), Below X.heap.size X Y → wpAnyIn Fence.wide (20 - 1 - 1) Tryd.prog .any ops Q 8 #[false, false, true, false, false, true, false, false, false, false] { tmps := #[.func (.func 84) #[] #[.pointer (some ⟨R2, 0, none⟩)], .func (.func 75) #[] #[.pointer (some ⟨R, 0, none⟩)], undef, .pointer (some ⟨O, 0, none⟩), .slice none 0 0, .pointer (some ⟨O + 1, 0, none⟩), .pointer (some ⟨g, 0, none⟩), .func (.func 84) #[] #[.pointer (some ⟨R2, 0, none⟩)], .agg #[.int .i64 (k : Nat), .slice y m c], undef, undef, .agg #[.int .i64 (k : Nat), .slice y m c], undef, undef, .slice (some ⟨Z, 0, none⟩) 1 1, undef, undef, undef], defers := [] } Y := by
        intro Y Z hXY
        have cL := (hXY.cell (p := ⟨O + 1, 0, none⟩) hLl).trans HC0.out.1
        have cO := (hXY.cell (p := ⟨O, 0, none⟩) hOl).trans HC0.out.2.1
        have cG0 := (hXY.cell (p := ⟨g, 0, none⟩) hGl).trans HC0.out.2.2.1
        have cG1 := (hXY.cell (p := ⟨g, 1, none⟩) hGl).trans HC0.out.2.2.2
        refine wpAnyIn_ready (rs := [0, 1]) (by rw [← Hops.out]; kernel_rfl) (by simp) ?_
        refine AllReadyIn.cons h0 (fun K hK => ?_) (AllReadyIn.cons h1 (fun K hK => ?_) (AllReadyIn.nil))
        · simp only [List.setIfInBounds_toArray, List.set_cons_zero, List.set_cons_succ] at hK
          go_simp
          exact hK _ _ (s_025 Y Z hXY)
        · simp only [List.setIfInBounds_toArray, List.set_cons_zero, List.set_cons_succ] at hK
          go_simp
          exact hK _ _ (s_125 Y Z hXY)
      have s_0 : ∀ (Y : World), Below X.heap.size X Y → wpAnyIn Fence.wide (20 - 1 - 1) Tryd.prog .any ops Q 9 #[true, false, false, false, false, false, false, false, false, false] { tmps := #[.func (.func 84) #[] #[.pointer (some ⟨R2, 0, none⟩)], .func (.func 75) #[] #[.pointer (some ⟨R, 0, none⟩)], undef, .pointer (some ⟨O, 0, none⟩), .slice none 0 0, .pointer (some ⟨O + 1, 0, none⟩), .pointer (some ⟨g, 0, none⟩), .func (.func 84) #[] #[.pointer (some ⟨R2, 0, none⟩)], .agg #[.int .i64 (k : Nat), .slice y m c], .slice xl pre.length cl, undef, undef, undef, undef, undef, undef, undef, undef], defers := [] } Y := by
        intro Y hXY
        have cL := (hXY.cell (p := ⟨O + 1, 0, none⟩) hLl).trans HC0.out.1
        have cO := (hXY.cell (p := ⟨O, 0, none⟩) hOl).trans HC0.out.2.1
        have cG0 := (hXY.cell (p := ⟨g, 0, none⟩) hGl).trans HC0.out.2.2.1
        have cG1 := (hXY.cell (p := ⟨g, 1, none⟩) hGl).trans HC0.out.2.2.2
        refine wpAnyIn_ready (rs := [1, 2, 4, 5]) (by rw [← Hops.out]; kernel_rfl) (by simp) ?_
        refine AllReadyIn.cons h1 (fun K hK => ?_) (AllReadyIn.cons h2 (fun K hK => ?_) (AllReadyIn.cons h4 (fun K hK => ?_) (AllReadyIn.cons h5 (fun K hK => ?_) (AllReadyIn.nil))))
        · simp only [List.setIfInBounds_toArray, List.set_cons_zero, List.set_cons_succ] at hK
          go_simp
          exact hK _ _ (s_01 Y hXY)
        · simp only [List.setIfInBounds_toArray, List.set_cons_zero, List.set_cons_succ] at hK
          go_simp
          exact hK _ _ (s_02 Y hXY)
        · simp only [List.setIfInBounds_toArray, List.set_cons_zero, List.set_cons_succ] at hK
          go_simp
          exact hK _ _ (s_04 Y hXY)
        · simp only [List.setIfInBounds_toArray, List.set_cons_zero, List.set_cons_succ] at hK
          go_simp
          exact hK _ _ (s_05 _ Y.heap.size (hXY.trans (balloc (Below.refl _ _) _ |>.mono hXY.size)))
      have s_1 : ∀ (Y : World), Below X.heap.size X Y → wpAnyIn Fence.wide (20 - 1 - 1) Tryd.prog .any ops Q 9 #[false, true, false, false, false, false, false, false, false, false] { tmps := #[.func (.func 84) #[] #[.pointer (some ⟨R2, 0, none⟩)], .func (.func 75) #[] #[.pointer (some ⟨R, 0, none⟩)], undef, .pointer (some ⟨O, 0, none⟩), .slice none 0 0, .pointer (some ⟨O + 1, 0, none⟩), .pointer (some ⟨g, 0, none⟩), .func (.func 84) #[] #[.pointer (some ⟨R2, 0, none⟩)], .agg #[.int .i64 (k : Nat), .slice y m c], undef, .func (.func 75) #[] #[.pointer (some ⟨R, 0, none⟩)], undef, undef, undef, undef, undef, undef, undef], defers := [] } Y := by
        intro Y hXY
        have cL := (hXY.cell (p := ⟨O + 1, 0, none⟩) hLl).trans HC0.out.1
        have cO := (hXY.cell (p := ⟨O, 0, none⟩) hOl).trans HC0.out.2.1
        have cG0 := (hXY.cell (p := ⟨g, 0, none⟩) hGl).trans HC0.out.2.2.1
        have cG1 := (hXY.cell (p := ⟨g, 1, none⟩) hGl).trans HC0.out.2.2.2
        refine wpAnyIn_ready (rs := [0, 2, 5]) (by rw [← Hops.out]; kernel_rfl) (by simp) ?_
        refine AllReadyIn.cons h0 (fun K hK => ?_) (AllReadyIn.cons h2 (fun K hK => ?_) (AllReadyIn.cons h5 (fun K hK => ?_) (AllReadyIn.nil)))
        · simp only [List.setIfInBounds_toArray, List.set_cons_zero, List.set_cons_succ] at hK
          go_simp
          exact hK _ _ (s_01 Y hXY)
        · simp only [List.setIfInBounds_toArray, List.set_cons_zero, List.set_cons_succ] at hK
          go_simp
          exact hK _ _ (s_12 Y hXY)
        · simp only [List.setIfInBounds_toArray, List.set_cons_zero, List.set_cons_succ] at hK
          go_simp
          exact hK _ _ (s_15 _ Y.heap.size (hXY.trans (balloc (Below.refl _ _) _ |>.mono hXY.size)))
      have s_2 : ∀ (Y : World), Below X.heap.size X Y → wpAnyIn Fence.wide (20 - 1 - 1) Tryd.prog .any ops Q 9 #[false, false, true, false, false, false, false, false, false, false] { tmps := #[.func (.func 84) #[] #[.pointer (some ⟨R2, 0, none⟩)], .func (.func 75) #[] #[.pointer (some ⟨R, 0, none⟩)], undef, .pointer (some ⟨O, 0, none⟩), .slice none 0 0, .pointer (some ⟨O + 1, 0, none⟩), .pointer (some ⟨g, 0, none⟩), .func (.func 84) #[] #[.pointer (some ⟨R2, 0, none⟩)], .agg #[.int .i64 (k : Nat), .slice y m c], undef, undef, .agg #[.int .i64 (k : Nat), .slice y m c], undef, undef, undef, undef, undef, undef], defers := [] } Y := by
        intro Y hXY
        have cL := (hXY.cell (p := ⟨O + 1, 0, none⟩) hLl).trans HC0.out.1
        have cO := (hXY.cell (p := ⟨O, 0, none⟩) hOl).trans HC0.out.2.1
        have cG0 := (hXY.cell (p := ⟨g, 0, none⟩) hGl).trans HC0.out.2.2.1
        have cG1 := (hXY.cell (p := ⟨g, 1, none⟩) hGl).trans HC0.out.2.2.2
        refine wpAnyIn_ready (rs := [0, 1, 5]) (by rw [← Hops.out]; kernel_rfl) (by simp) ?_
        refine AllReadyIn.cons h0 (fun K hK => ?_) (AllReadyIn.cons h1 (fun K hK => ?_) (AllReadyIn.cons h5 (fun K hK => ?_) (AllReadyIn.nil)))
        · simp only [List.setIfInBounds_toArray, List.set_cons_zero, List.set_cons_succ] at hK
          go_simp
          exact hK _ _ (s_02 Y hXY)
        · simp only [List.setIfInBounds_toArray, List.set_cons_zero, List.set_cons_succ] at hK
          go_simp
          exact hK _ _ (s_12 Y hXY)
        · simp only [List.setIfInBounds_toArray, List.set_cons_zero, List.set_cons_succ] at hK
          go_simp
          exact hK _ _ (s_25 _ Y.heap.size (hXY.trans (balloc (Below.refl _ _) _ |>.mono hXY.size)))
      have s_5 : ∀ (Y : World) (Z : Nat), Below X.heap.size X Y → wpAnyIn Fence.wide (20 - 1 - 1) Tryd.prog .any ops Q 9 #[false, false, false, false, false, true, false, false, false, false] { tmps := #[.func (.func 84) #[] #[.pointer (some ⟨R2, 0, none⟩)], .func (.func 75) #[] #[.pointer (some ⟨R, 0, none⟩)], undef, .pointer (some ⟨O, 0, none⟩), .slice none 0 0, .pointer (some ⟨O + 1, 0, none⟩), .pointer (some ⟨g, 0, none⟩), .func (.func 84) #[] #[.pointer (some ⟨R2, 0, none⟩)], .agg #[.int .i64 (k : Nat), .slice y m c], undef, undef, undef, undef, undef, .slice (some ⟨Z, 0, none⟩) 1 1, undef, undef, undef], defers := [] } Y := by
        intro Y Z hXY
        have cL := (hXY.cell (p := ⟨O + 1, 0, none⟩) hLl).trans HC0.out.1
        have cO := (hXY.cell (p := ⟨O, 0, none⟩) hOl).trans HC0.out.2.1
        have cG0 := (hXY.cell (p := ⟨g, 0, none⟩) hGl).trans HC0.out.2.2.1
        have cG1 := (hXY.cell (p := ⟨g, 1, none⟩) hGl).trans HC0.out.2.2.2
        refine wpAnyIn_ready (rs := [0, 1, 2]) (by rw [← Hops.out]; kernel_rfl) (by simp) ?_
        refine AllReadyIn.cons h0 (fun K hK => ?_) (AllReadyIn.cons h1 (fun K hK => ?_) (AllReadyIn.cons h2 (fun K hK => ?_) (AllReadyIn.nil)))
        · simp only [List.setIfInBounds_toArray, List.set_cons_zero, List.set_cons_succ] at hK
          go_simp
          exact hK _ _ (s_05 Y Z hXY)
        · simp only [List.setIfInBounds_toArray, List.set_cons_zero, List.set_cons_succ] at hK
          go_simp
          exact hK _ _ (s_15 Y Z hXY)
        · simp only [List.setIfInBounds_toArray, List.set_cons_zero, List.set_cons_succ] at hK
          go_simp
          exact hK _ _ (s_25 Y Z hXY)
      have s_e : ∀ (Y : World), Below X.heap.size X Y → wpAnyIn Fence.wide (20 - 1 - 1) Tryd.prog .any ops Q 10 #[false, false, false, false, false, false, false, false, false, false] { tmps := #[.func (.func 84) #[] #[.pointer (some ⟨R2, 0, none⟩)], .func (.func 75) #[] #[.pointer (some ⟨R, 0, none⟩)], undef, .pointer (some ⟨O, 0, none⟩), .slice none 0 0, .pointer (some ⟨O + 1, 0, none⟩), .pointer (some ⟨g, 0, none⟩), .func (.func 84) #[] #[.pointer (some ⟨R2, 0, none⟩)], .agg #[.int .i64 (k : Nat), .slice y m c], undef, undef, undef, undef, undef, undef, undef, undef, undef], defers := [] } Y := by
        intro Y hXY
        have cL := (hXY.cell (p := ⟨O + 1, 0, none⟩) hLl).trans HC0.out.1
        have cO := (hXY.cell (p := ⟨O, 0, none⟩) hOl).trans HC0.out.2.1
        have cG0 := (hXY.cell (p := ⟨g, 0, none⟩) hGl).trans HC0.out.2.2.1
        have cG1 := (hXY.cell (p := ⟨g, 1, none⟩) hGl).trans HC0.out.2.2.2
        refine wpAnyIn_ready (rs := [0, 1, 2, 5]) (by rw [← Hops.out]; kernel_rfl) (by simp) ?_
        refine AllReadyIn.cons h0 (fun K hK => ?_) (AllReadyIn.cons h1 (fun K hK => ?_) (AllReadyIn.cons h2 (fun K hK => ?_) (AllReadyIn.cons h5 (fun K hK => ?_) (AllReadyIn.nil))))
        · simp only [List.setIfInBounds_toArray, List.set_cons_zero, List.set_cons_succ] at hK
          go_simp
          exact hK _ _ (s_0 Y hXY)
        · simp only [List.setIfInBounds_toArray, List.set_cons_zero, List.set_cons_succ] at hK
          go_simp
          exact hK _ _ (s_1 Y hXY)
        · simp only [List.setIfInBounds_toArray, List.set_cons_zero, List.set_cons_succ] at hK
          go_simp
          exact hK _ _ (s_2 Y hXY)
        · simp only [List.setIfInBounds_toArray, List.set_cons_zero, List.set_cons_succ] at hK
          go_simp
          exact hK _ _ (s_5 _ Y.heap.size (hXY.trans (balloc (Below.refl _ _) _ |>.mono hXY.size)))
      exact s_e X.drew (Below.refl _ _).drew
end Go.Proofs.YtjmfnafbjfceoaaDoor
