/- item: the reference's Same, of any two items. -/
import Derived.Test.YtjmfnafbjfceoaaDoorQg
import Derived.Deep.RegionHeld3
namespace Go.Proofs.YtjmfnafbjfceoaaDoor
open Go.RowKit Go.Shelf
attribute [local irreducible] lb wdG byA byC heL nuL toS
/-- Are two trees the same? -/
noncomputable def sameT (t u : It) : Bool := @decide (t = u) (Classical.propDecidable _)
theorem sameT_true (t u : It) : sameT t u = true ↔ t = u := by unfold sameT; exact @decide_eq_true_iff _ (Classical.propDecidable _)
theorem sameT_false (t u : It) : sameT t u = false ↔ t ≠ u := by
  rw [← Bool.not_eq_true, sameT_true]

set_option maxRecDepth 100000 in
set_option maxHeartbeats 4000000 in
theorem rsame_o (B : Nat) (X : World) (t : It) (v : Value) (hv : ItO B X t v) : smT t → ∀ (u : It) (v2 : Value) (B2 : Nat) (w : World), Below X.heap.size X w → ItO B2 w u v2 → smT u →
    Calls Tryd.prog 14 #[v, v2] w fun e w' => e = .returned (.bool (sameT t u)) ∧ Below w.heap.size w w' := by
  induction hv with
  | mk b l ts v1 iv vs h1 h2 hl hs _ ih =>
    intro hst u v2 B2 w hX hu hsu
    cases hu with
    | mk c l2 us u1 ju vu k1 k2 hl2 hs2 _ =>
      obtain ⟨hq1, hq2, hq3⟩ : l.length ≤ 600 ∧ ts.length ≤ 600 ∧ ∀ (i : Nat) t, ts[i]? = some t → smT t := by cases hst with | mk _ _ _ q1 q2 q3 => exact ⟨q1, q2, q3⟩
      obtain ⟨hr1, hr2, hr3⟩ : l2.length ≤ 600 ∧ us.length ≤ 600 ∧ ∀ (i : Nat) t, us[i]? = some t → smT t := by cases hsu with | mk _ _ _ q1 q2 q3 => exact ⟨q1, q2, q3⟩
      have h1w := h1.new hX
      have h2w := h2.new hX
      obtain ⟨_, x, a, rfl, _⟩ := id h1
      obtain ⟨_, x2, a2, rfl, _⟩ := id k1
      obtain ⟨y, e, rfl, _, g2⟩ := h2w
      obtain ⟨y2, e2, rfl, _, j2⟩ := k2
      have hW := balloc (balloc (Below.refl w.heap.size w) (.cells #[.bool b, .slice x l.length a, .slice y vs.length e] 25)) (.cells #[.bool c, .slice x2 l2.length a2, .slice y2 vu.length e2] 25)
      have f1 := conv_byteso B _ l _ (h1w.new hW) (by omega)
      have f2 := conv_byteso B2 _ l2 _ (k1.new hW) (by omega)
      have he : ((toS l).toList == (toS l2).toList) = decide (l = l2) := by
        rw [Bool.eq_iff_iff, beq_iff_eq, decide_eq_true_iff, toS_list, toS_list]
        exact ⟨fun h => toS_inj h1.1 k1.1 (by unfold toS; rw [h]), fun h => by rw [h]⟩
      have HW := Lib.hid hW
      obtain ⟨N, hNN⟩ : ∃ N, vs.length = N := ⟨_, rfl⟩
      obtain ⟨M, hMM⟩ : ∃ M, vu.length = M := ⟨_, rfl⟩
      obtain ⟨ll, hll⟩ : ∃ ll, l.length = ll := ⟨_, rfl⟩
      obtain ⟨ml, hml⟩ : ∃ ml, l2.length = ml := ⟨_, rfl⟩
      obtain ⟨s1, hs1⟩ : ∃ s, toS l = s := ⟨_, rfl⟩
      obtain ⟨s2, hs2'⟩ : ∃ s, toS l2 = s := ⟨_, rfl⟩
      obtain ⟨q, hq⟩ : ∃ q, sameT (.mk b l ts) (.mk c l2 us) = q := ⟨_, rfl⟩
      rw [hNN, hll, hMM, hml] at HW f1 f2
      rw [hs1, hs2'] at he
      rw [hs1] at f1
      rw [hs2'] at f2
      rw [hNN, hll, hMM, hml, hq]
      have HI := Lib.hid (And.intro hNN (And.intro hMM (And.intro hl (And.intro hl2 (And.intro g2 (And.intro j2 (And.intro hq3 (And.intro hr3 (And.intro hs2 (And.intro ih hX))))))))))
      have HQ := Lib.hid hq
      have hN6 : N ≤ 600 := by omega
      have hM6 : M ≤ 600 := by omega
      clear hs hst hsu hq1 hq2 hr1 hr2 h1w h1 k1 hs1 hs2' hll hml hMM hNN hW ih hs2 hq3 hr3 g2 j2 hl hl2 h2 hX hq
      by_cases hbc : b = c
      · subst hbc
        by_cases hlm : l = l2
        · rw [decide_eq_true hlm] at he
          have he2 : s1.toList = s2.toList := by simpa using he
          clear he
          by_cases hnm : N = M
          · subst hnm
            go_enter Tryd.func14, Tryd.ntmps14
            go_wp2_with fail
            go_loopw [5] (fun i wr => ∃ k : Nat, i = .int .i64 (k : Int) ∧ k ≤ N ∧ (∀ j t u, j < k → ts[j]? = some t → us[j]? = some u → t = u) ∧ Blk wr w.heap.size 25 #[.bool b, .slice x ll a, .slice y N e] ∧ Blk wr (w.heap.size + 1) 25 #[.bool b, .slice x2 ml a2, .slice y2 N e2] ∧ Below w.heap.size w wr) (fun i _ => N - (intOf i).toNat)
            case atStart => exact ⟨0, rfl, by omega, fun j t u h => by omega, (Blk.new _ _ _).alloc _, Blk.newS _ _ _ _, HW.out⟩
            case round =>
              obtain ⟨k, rfl, hk, hno, hA0, hB0, hbl⟩ := hrel
              have cX0 := cell_of_row _ _ 0 _ _ _ hA0
              have cX1 := cell_of_row _ _ 1 _ _ _ hA0
              have cX2 := cell_of_row _ _ 2 _ _ _ hA0
              have cY0 := cell_of_row _ _ 0 _ _ _ hB0
              have cY1 := cell_of_row _ _ 1 _ _ _ hB0
              have cY2 := cell_of_row _ _ 2 _ _ _ hB0
              by_cases hlt : k < N
              · obtain ⟨a1, a2', a3, a4, g2, j2, hq3, hr3, hs2, ih, hX⟩ := HI.out
                have hkI : (k : Int) < (N : Int) := by omega
                have hk0 : ¬ (k : Int) < 0 := by omega
                have hkv : k < vs.length := by omega
                have hkt : k < ts.length := by omega
                have hkv2 : k < vu.length := by omega
                have hkt2 : k < us.length := by omega
                obtain ⟨v, hv⟩ : ∃ v, vs[k]? = some v := ⟨vs[k], by simp [hkv]⟩
                obtain ⟨t, ht⟩ : ∃ t, ts[k]? = some t := ⟨ts[k], by simp [hkt]⟩
                obtain ⟨v', hv'⟩ : ∃ v, vu[k]? = some v := ⟨vu[k], by simp [hkv2]⟩
                obtain ⟨u, hu⟩ : ∃ t, us[k]? = some t := ⟨us[k], by simp [hkt2]⟩
                obtain ⟨b1, o, rfl, hb, hbx, hc⟩ := g2 (fun e => by rw [e] at hv; simp at hv)
                obtain ⟨b2, o2, rfl, hb2, hbx2, hc2⟩ := j2 (fun e => by rw [e] at hv'; simp at hv')
                obtain ⟨c1, x1, n1, d1, y1, m1, e1, hve, k0, k1, k2⟩ := hc k v hv
                obtain ⟨c3, x3, n3, d3, y3, m3, e3, hve3, l0, l1, l2'⟩ := hc2 k v' hv'
                have k0 := (hbl.cell (p := ⟨b1, o + k * 3, none⟩) hbx).trans k0
                have k1 := (hbl.cell (p := ⟨b1, o + k * 3 + 1, none⟩) hbx).trans k1
                have k2 := (hbl.cell (p := ⟨b1, o + k * 3 + 2, none⟩) hbx).trans k2
                have l0 := (hbl.cell (p := ⟨b2, o2 + k * 3, none⟩) hbx2).trans l0
                have l1 := (hbl.cell (p := ⟨b2, o2 + k * 3 + 1, none⟩) hbx2).trans l1
                have l2' := (hbl.cell (p := ⟨b2, o2 + k * 3 + 2, none⟩) hbx2).trans l2'
                have g3 : IntKind.i64.wrap ((k : Int) + 1) = (k : Int) + 1 := IntWalk.i64_in _ (by omega)
                have hcall := ih k t v ht hv (hq3 k t ht) u v' B2 wr.drew (bstep hX (bstep hbl (Below.refl _ _).drew)) ((hs2 k u v' hu hv').new (bstep hbl (Below.refl _ _).drew)) (hr3 k u hu)
                rw [hve, hve3] at hcall
                obtain ⟨z, hz⟩ : ∃ z, sameT t u = z := ⟨_, rfl⟩
                rw [hz] at hcall
                have HBX := Lib.hid (show b1 < wr.heap.size ∧ b2 < wr.heap.size from ⟨Nat.lt_of_lt_of_le hbx hbl.size, Nat.lt_of_lt_of_le hbx2 hbl.size⟩)
                have HC := Lib.hid hcall
                have HK := Lib.hid (And.intro hno (And.intro hbl (And.intro ht (And.intro hu (And.intro hz (And.intro hA0 (And.intro hB0 a4)))))))
                clear hA0 hB0 hc hc2 hv hv' hve hve3 hno hbl hbx hbx2 hb hb2 hcall hs2 ih a1 a2' a3 a4 ht hu hkv hkt hkv2 hkt2 hz hq3 hr3 g2 j2 hX
                have HLT := Lib.hid (show w.heap.size < wr.heap.size ∧ w.heap.size + 1 < wr.heap.size ∧ b1 < wr.heap.size ∧ b2 < wr.heap.size from ⟨HK.out.2.2.2.2.2.1.lt, HK.out.2.2.2.2.2.2.1.lt, HBX.out.1, HBX.out.2⟩)
                go_wp2_with fail
                refine wp_region_held_drew (S := fun w' => Below wr.heap.size wr w') (by as_aux_lemma => kernel_rfl) (Below.refl _ _).drew (fun hHeld => ?_)
                simp only [List.size_toArray, List.length_cons, List.length_nil, Nat.reduceAdd, Array.replicate_succ, Array.replicate_zero, List.push_toArray, List.nil_append, List.cons_append]
                refine wpAnyH_take (i := 0) (oi := { dst := some 36, op := Op.fieldAddr 25 (Operand.tmp 2) 2, type := 0, pos := "ref.go:164", after := #[], guard := none }) (v := ?vq0) rfl (by as_aux_lemma => kernel_rfl) (by as_aux_lemma => kernel_rfl) (by as_aux_lemma => kernel_rfl) (fun _ _ _ h => h) (Or.inl ⟨by rfl, ?yq0⟩) (by assumption) ?rq0
                case yq0 => (intro w' hSw; (try dsimp only at hSw); go_simp <;> with_reducible rfl)
                simp only [Act.put, List.setIfInBounds_toArray, List.set_cons_zero, List.set_cons_succ]
                refine wpAnyH_take (i := 1) (oi := { dst := some 37, op := Op.load 23 (Operand.tmp 36), type := 23, pos := "ref.go:164", after := #[{ on := 0, ground := Ground.data }], guard := none }) (v := ?vq1) rfl (by as_aux_lemma => kernel_rfl) (by as_aux_lemma => kernel_rfl) (by as_aux_lemma => kernel_rfl) (fun _ _ _ h => h) (Or.inl ⟨by rfl, ?yq1⟩) (by assumption) ?rq1
                case yq1 => (intro w' hSw; (try dsimp only at hSw); have z0 := (hSw.cell (p := ⟨w.heap.size, 2, none⟩) HLT.out.1).trans cX2; go_simp <;> with_reducible rfl)
                simp only [Act.put, List.setIfInBounds_toArray, List.set_cons_zero, List.set_cons_succ]
                refine wpAnyH_take (i := 2) (oi := { dst := some 38, op := Op.move (Operand.tmp 5), type := 3, pos := "ref.go:164", after := #[], guard := none }) (v := ?vq2) rfl (by as_aux_lemma => kernel_rfl) (by as_aux_lemma => kernel_rfl) (by as_aux_lemma => kernel_rfl) (fun _ _ _ h => h) (Or.inl ⟨by rfl, ?yq2⟩) (by assumption) ?rq2
                case yq2 => (intro w' hSw; (try dsimp only at hSw); go_simp <;> with_reducible rfl)
                simp only [Act.put, List.setIfInBounds_toArray, List.set_cons_zero, List.set_cons_succ]
                refine wpAnyH_take (i := 3) (oi := { dst := some 39, op := Op.indexAddr 23 (Operand.tmp 37) (Operand.tmp 38), type := 0, pos := "ref.go:164", after := #[{ on := 1, ground := Ground.data }, { on := 2, ground := Ground.data }], guard := none }) (v := ?vq3) rfl (by as_aux_lemma => kernel_rfl) (by as_aux_lemma => kernel_rfl) (by as_aux_lemma => kernel_rfl) (fun _ _ _ h => h) (Or.inl ⟨by rfl, ?yq3⟩) (by assumption) ?rq3
                case yq3 => (intro w' hSw; (try dsimp only at hSw); go_simp <;> with_reducible rfl)
                simp only [Act.put, List.setIfInBounds_toArray, List.set_cons_zero, List.set_cons_succ]
                refine wpAnyH_take (i := 4) (oi := { dst := some 40, op := Op.load 25 (Operand.tmp 39), type := 25, pos := "ref.go:164", after := #[{ on := 3, ground := Ground.data }], guard := none }) (v := ?vq4) rfl (by as_aux_lemma => kernel_rfl) (by as_aux_lemma => kernel_rfl) (by as_aux_lemma => kernel_rfl) (fun _ _ _ h => h) (Or.inl ⟨by rfl, ?yq4⟩) (by assumption) ?rq4
                case yq4 => (intro w' hSw; (try dsimp only at hSw); have z0 := (hSw.cell (p := ⟨b1, o + k * 3, none⟩) HLT.out.2.2.1).trans k0; have z1 := (hSw.cell (p := ⟨b1, o + k * 3 + 1, none⟩) HLT.out.2.2.1).trans k1; have z2 := (hSw.cell (p := ⟨b1, o + k * 3 + 2, none⟩) HLT.out.2.2.1).trans k2; go_simp <;> with_reducible rfl)
                simp only [Act.put, List.setIfInBounds_toArray, List.set_cons_zero, List.set_cons_succ]
                refine wpAnyH_take (i := 5) (oi := { dst := some 41, op := Op.fieldAddr 25 (Operand.tmp 3) 2, type := 0, pos := "ref.go:164", after := #[], guard := none }) (v := ?vq5) rfl (by as_aux_lemma => kernel_rfl) (by as_aux_lemma => kernel_rfl) (by as_aux_lemma => kernel_rfl) (fun _ _ _ h => h) (Or.inl ⟨by rfl, ?yq5⟩) (by assumption) ?rq5
                case yq5 => (intro w' hSw; (try dsimp only at hSw); go_simp <;> with_reducible rfl)
                simp only [Act.put, List.setIfInBounds_toArray, List.set_cons_zero, List.set_cons_succ]
                refine wpAnyH_take (i := 6) (oi := { dst := some 42, op := Op.load 23 (Operand.tmp 41), type := 23, pos := "ref.go:164", after := #[{ on := 5, ground := Ground.data }], guard := none }) (v := ?vq6) rfl (by as_aux_lemma => kernel_rfl) (by as_aux_lemma => kernel_rfl) (by as_aux_lemma => kernel_rfl) (fun _ _ _ h => h) (Or.inl ⟨by rfl, ?yq6⟩) (by assumption) ?rq6
                case yq6 => (intro w' hSw; (try dsimp only at hSw); have z0 := (hSw.cell (p := ⟨w.heap.size + 1, 2, none⟩) HLT.out.2.1).trans cY2; go_simp <;> with_reducible rfl)
                simp only [Act.put, List.setIfInBounds_toArray, List.set_cons_zero, List.set_cons_succ]
                refine wpAnyH_take (i := 7) (oi := { dst := some 43, op := Op.move (Operand.tmp 5), type := 3, pos := "ref.go:164", after := #[], guard := none }) (v := ?vq7) rfl (by as_aux_lemma => kernel_rfl) (by as_aux_lemma => kernel_rfl) (by as_aux_lemma => kernel_rfl) (fun _ _ _ h => h) (Or.inl ⟨by rfl, ?yq7⟩) (by assumption) ?rq7
                case yq7 => (intro w' hSw; (try dsimp only at hSw); go_simp <;> with_reducible rfl)
                simp only [Act.put, List.setIfInBounds_toArray, List.set_cons_zero, List.set_cons_succ]
                refine wpAnyH_take (i := 8) (oi := { dst := some 44, op := Op.indexAddr 23 (Operand.tmp 42) (Operand.tmp 43), type := 0, pos := "ref.go:164", after := #[{ on := 6, ground := Ground.data }, { on := 7, ground := Ground.data }], guard := none }) (v := ?vq8) rfl (by as_aux_lemma => kernel_rfl) (by as_aux_lemma => kernel_rfl) (by as_aux_lemma => kernel_rfl) (fun _ _ _ h => h) (Or.inl ⟨by rfl, ?yq8⟩) (by assumption) ?rq8
                case yq8 => (intro w' hSw; (try dsimp only at hSw); go_simp <;> with_reducible rfl)
                simp only [Act.put, List.setIfInBounds_toArray, List.set_cons_zero, List.set_cons_succ]
                refine wpAnyH_take (i := 9) (oi := { dst := some 45, op := Op.load 25 (Operand.tmp 44), type := 25, pos := "ref.go:164", after := #[{ on := 8, ground := Ground.data }], guard := none }) (v := ?vq9) rfl (by as_aux_lemma => kernel_rfl) (by as_aux_lemma => kernel_rfl) (by as_aux_lemma => kernel_rfl) (fun _ _ _ h => h) (Or.inl ⟨by rfl, ?yq9⟩) (by assumption) ?rq9
                case yq9 => (intro w' hSw; (try dsimp only at hSw); have z0 := (hSw.cell (p := ⟨b2, o2 + k * 3, none⟩) HLT.out.2.2.2).trans l0; have z1 := (hSw.cell (p := ⟨b2, o2 + k * 3 + 1, none⟩) HLT.out.2.2.2).trans l1; have z2 := (hSw.cell (p := ⟨b2, o2 + k * 3 + 2, none⟩) HLT.out.2.2.2).trans l2'; go_simp <;> with_reducible rfl)
                simp only [Act.put, List.setIfInBounds_toArray, List.set_cons_zero, List.set_cons_succ]
                refine wpAnyH_ready (rs := [10]) (by as_aux_lemma => kernel_rfl) (by simp) ?_
                refine AllReadyH.cons (o := { dst := some 46, op := Op.call { callee := Callee.value (Operand.func 14), args := #[Operand.tmp 40, Operand.tmp 45], argTypes := #[25, 25] }, type := 4, pos := "ref.go:164", after := #[{ on := 4, ground := Ground.data }, { on := 9, ground := Ground.data }], guard := none }) rfl (fun K hK => ?_) (by exact AllReadyH.nil)
                rw [if_pos (by rfl)]
                go_simp
                (go_at_call 14; refine HC.out.mono ?_; rintro e wk10 ⟨rfl, hk10⟩)
                refine hK.out _ _ (by (try dsimp only); (first | assumption | exact rstep (by assumption) (by assumption))) (fun hHeld => ?_)
                clear hK K
                simp only [List.setIfInBounds_toArray, List.set_cons_zero, List.set_cons_succ]
                refine wpAnyH_take (i := 11) (oi := { dst := some 47, op := Op.unOp UnOp.not 4 (Operand.tmp 46), type := 4, pos := "ref.go:164", after := #[{ on := 10, ground := Ground.data }], guard := none }) (v := ?vq11) rfl (by as_aux_lemma => kernel_rfl) (by as_aux_lemma => kernel_rfl) (by as_aux_lemma => kernel_rfl) (fun _ _ _ h => h) (Or.inl ⟨by rfl, ?yq11⟩) (by assumption) ?rq11
                case yq11 => (intro w' hSw; (try dsimp only at hSw); go_simp <;> with_reducible rfl)
                simp only [Act.put, List.setIfInBounds_toArray, List.set_cons_zero, List.set_cons_succ]
                refine wpAnyH_done (by as_aux_lemma => kernel_rfl) ?_ _
                have HE := Lib.hid hHeld
                clear HC k0 k1 k2 l0 l1 l2' cX0 cX1 cX2 cY0 cY1 cY2 hHeld hk10
                cases z with
                | true =>
                  go_wp2_with fail
                  refine ⟨⟨k + 1, by go_num, by omega, fun j t' u' hj ht' hu' => ?_, HK.out.2.2.2.2.2.1.keep HE.out, HK.out.2.2.2.2.2.2.1.keep HE.out, bstep HK.out.2.1 HE.out⟩, by simp [intOf]; omega⟩
                  by_cases hjk : j = k
                  · subst hjk
                    have q1 := HK.out.2.2.1
                    have q2 := HK.out.2.2.2.1
                    rw [q1] at ht'
                    rw [q2] at hu'
                    cases ht'
                    cases hu'
                    exact (sameT_true _ _).1 HK.out.2.2.2.2.1
                  · exact HK.out.1 j t' u' (by omega) ht' hu'
                | false =>
                  have hqf : q = false := by
                    rw [← HQ.out, sameT_false]
                    intro h; injection h with _ _ h
                    refine (sameT_false _ _).1 HK.out.2.2.2.2.1 ?_
                    have q1 := HK.out.2.2.1
                    have q2 := HK.out.2.2.2.1
                    rw [h, q2] at q1
                    exact (Option.some.inj q1).symm
                  subst hqf
                  have HF := Lib.hid (bstep HK.out.2.1 HE.out)
                  clear HK HE HQ HI
                  go_wp2_with fail
                  go_ret
                  exact ⟨rfl, HF.out⟩
              · obtain rfl : k = N := by omega
                have hqt : q = true := by
                  obtain ⟨a1, a2', a3, a4, _⟩ := HI.out
                  rw [← HQ.out, sameT_true]
                  have : ts = us := by
                    apply List.ext_getElem?
                    intro i
                    by_cases hi : i < k
                    · have e1 : ts[i]? = some (ts[i]'(by omega)) := by simp [show i < ts.length by omega]
                      have e2 : us[i]? = some (us[i]'(by omega)) := by simp [show i < us.length by omega]
                      rw [e1, e2, hno i _ _ hi e1 e2]
                    · rw [List.getElem?_eq_none (by omega), List.getElem?_eq_none (by omega)]
                  rw [this, hlm]
                subst hqt
                have HK := Lib.hid hbl
                clear hbl hno hA0 hB0 HQ HI
                go_wp2_with fail
                go_ret
                exact ⟨rfl, HK.out⟩
          · have hqf : q = false := by
              rw [← HQ.out, sameT_false]
              intro h; injection h with _ _ h
              obtain ⟨a1, a2, a3, a4, _⟩ := HI.out
              exact hnm (by rw [← a1, ← a2, a3, a4, h])
            have hnI : ¬ (N : Int) = (M : Int) := by omega
            subst hqf
            clear HQ HI
            go_enter Tryd.func14, Tryd.ntmps14
            go_wp2_with fail
            go_ret
            exact ⟨rfl, HW.out⟩
        · rw [decide_eq_false hlm] at he
          have he2 : ¬ s1.toList = s2.toList := by simpa using he
          have hqf : q = false := by
            rw [← HQ.out, sameT_false]
            intro h; injection h with _ h _
            exact hlm h
          subst hqf
          clear HQ HI he
          go_enter Tryd.func14, Tryd.ntmps14
          go_wp2_with fail
          go_ret
          exact ⟨rfl, HW.out⟩
      · have hqf : q = false := by
          rw [← HQ.out, sameT_false]
          intro h; injection h with h _ _
          exact hbc h
        subst hqf
        clear HQ HI
        go_enter Tryd.func14, Tryd.ntmps14
        go_wp2_with fail
        go_ret
        exact ⟨rfl, HW.out⟩
end Go.Proofs.YtjmfnafbjfceoaaDoor
