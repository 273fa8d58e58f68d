/- item: the reference's Right, of items that arguments lay. -/
import Derived.Test.YtjmfnafbjfceoaaDoorJs
namespace Go.Proofs.YtjmfnafbjfceoaaDoor
open Go.RowKit Go.Shelf
attribute [local irreducible] lb wdG byA byC heL
set_option maxRecDepth 100000 in
set_option maxHeartbeats 4000000 in
theorem rright_o (d : Nat) (hd : d ≤ 8) : ∀ (t : It) (v : Value) (B : Nat) (w : World), B ≤ w.heap.size → ItO B w t v → smT t →
    Calls Tryd.prog 29 #[v, .int .i64 (d : Nat)] w fun e w' => e = .returned (.bool (rtB d t)) ∧ Below w.heap.size w w' := by
  induction d with
  | zero =>
    intro t v B w hB hv hsm
    obtain ⟨b, x, m, c, y, n, d, rfl⟩ := hv.is
    have HW := Lib.hid (balloc (Below.refl w.heap.size w) (.cells #[.bool b, .slice x m c, .slice y n d] 25))
    clear hv hsm
    unfold rtB
    go_enter Tryd.func29, Tryd.ntmps29
    go_wp2_with fail
    go_ret
    exact ⟨rfl, HW.out⟩
  | succ d ih =>
    intro t v B w hB hv hsm
    cases hv with
    | mk b l ts v1 iv vs h1 h2 hl hs =>
      obtain ⟨hq1, hN, hq3⟩ : l.length ≤ 600 ∧ vs.length ≤ 600 ∧ ∀ (i : Nat) t, ts[i]? = some t → smT t := by cases hsm with | mk _ _ _ q1 q2 q3 => exact ⟨q1, by omega, q3⟩
      obtain ⟨_, x, c, rfl, _⟩ := h1
      obtain ⟨y, e, rfl, _, h2⟩ := h2
      have g0 : ¬ ((d : Int) + 1 < 1) := by omega
      have g1 : IntKind.i64.wrap ((d : Int) + 1 - 1) = (d : Int) := (IntWalk.i64_in _ (by omega)).trans (by omega)
      rw [show ((d + 1 : Nat) : Int) = (d : Int) + 1 by omega]
      have hrt : rtB (d + 1) (.mk b l ts) = if b then l.isEmpty && ts.all (rtB d) else ts.isEmpty := rfl
      have HW := Lib.hid (balloc (Below.refl w.heap.size w) (.cells #[.bool b, .slice x l.length c, .slice y vs.length e] 25))
      have HRT := Lib.hid hrt
      clear hrt
      obtain ⟨N, hNN⟩ : ∃ N, vs.length = N := ⟨_, rfl⟩
      obtain ⟨m, hm⟩ : ∃ m, l.length = m := ⟨_, rfl⟩
      have HI := Lib.hid (And.intro hNN (And.intro hl (And.intro hm (And.intro h2 (And.intro hs (And.intro hq3 ih))))))
      rw [hNN] at hN HW ⊢
      rw [hm] at hq1 HW ⊢
      clear hs ih h2 hl hm hNN hq3 hsm
      cases b with
      | false =>
        by_cases h0 : N = 0
        · have hE : rtB (d + 1) (.mk false l ts) = true := by
            obtain ⟨hNN, hl, _⟩ := HI.out
            have : ts = [] := List.length_eq_zero_iff.1 (by omega)
            rw [HRT.out, this]; rfl
          subst h0
          rw [hE]
          clear hE HRT HI
          go_enter Tryd.func29, Tryd.ntmps29
          go_wp2_with fail
          refine wp_loop_rounds 1 ?_
          rw [rounds_succ]; go_wp2_with fail
          go_ret
          exact ⟨rfl, HW.out⟩
        · have hE : rtB (d + 1) (.mk false l ts) = false := by
            obtain ⟨hNN, hl, _⟩ := HI.out
            rw [HRT.out, if_neg (by simp)]
            cases ts with
            | nil => exact (h0 (by rw [← hNN, hl]; rfl)).elim
            | cons a r => rfl
          have g2 : (0 : Int) < (N : Int) := by omega
          rw [hE]
          clear hE HRT HI
          go_enter Tryd.func29, Tryd.ntmps29
          go_wp2_with fail
          go_ret
          exact ⟨rfl, HW.out⟩
      | true =>
        by_cases h0 : m = 0
        · have hE : rtB (d + 1) (.mk true l ts) = ts.all (rtB d) := by
            obtain ⟨hNN, hl, hm, _⟩ := HI.out
            have : l = [] := List.length_eq_zero_iff.1 (by omega)
            rw [HRT.out, this]; rfl
          rw [hE]
          subst h0
          clear hE HRT
          go_enter Tryd.func29, Tryd.ntmps29
          go_wp2_with fail
          go_loopw [5] (fun i wr => ∃ k : Nat, i = .int .i64 (k : Int) ∧ k ≤ N ∧ (∀ j t, j < k → ts[j]? = some t → rtB d t = true) ∧ Blk wr w.heap.size 25 #[.bool true, .slice x (0 : Nat) c, .slice y N e] ∧ Below w.heap.size w wr) (fun i _ => N - (intOf i).toNat)
          case atStart => exact ⟨0, rfl, by omega, fun j t h => by omega, Blk.new _ _ _, HW.out⟩
          case round =>
            obtain ⟨k, rfl, hk, hno, hB0, hbl⟩ := hrel
            have cX0 := cell_of_row _ _ 0 _ _ _ hB0
            have cX1 := cell_of_row _ _ 1 _ _ _ hB0
            have cX2 := cell_of_row _ _ 2 _ _ _ hB0
            by_cases hlt : k < N
            · obtain ⟨hNN, hl, hm, h2, hs, hq3, ih⟩ := HI.out
              have hkI : (k : Int) < (N : Int) := by omega
              have hk0 : ¬ (k : Int) < 0 := by omega
              have hkv : k < vs.length := by omega
              have hkt : k < ts.length := by omega
              obtain ⟨v, hv⟩ : ∃ v, vs[k]? = some v := ⟨vs[k], by simp [hkv]⟩
              obtain ⟨t, ht⟩ : ∃ t, ts[k]? = some t := ⟨ts[k], by simp [hkt]⟩
              obtain ⟨b1, o, rfl, hb, hbx, hc⟩ := h2 (fun e => by rw [e] at hv; simp at hv)
              obtain ⟨c1, x1, n1, d1, y1, m1, e1, hve, k0, k1, k2⟩ := hc k v hv
              have k0 := (hbl.cell (p := ⟨b1, o + k * 3, none⟩) hbx).trans k0
              have k1 := (hbl.cell (p := ⟨b1, o + k * 3 + 1, none⟩) hbx).trans k1
              have k2 := (hbl.cell (p := ⟨b1, o + k * 3 + 2, none⟩) hbx).trans k2
              have g3 : IntKind.i64.wrap ((k : Int) + 1) = (k : Int) + 1 := IntWalk.i64_in _ (by omega)
              have hcall := ih (by omega) t v B wr (Nat.le_trans hB hbl.size) ((hs k t v ht hv).new hbl) (hq3 k t ht)
              rw [hve] at hcall
              obtain ⟨q, hq⟩ : ∃ q, rtB d t = q := ⟨_, rfl⟩
              rw [hq] at hcall
              have HC := Lib.hid hcall
              have HK := Lib.hid (And.intro hno (And.intro hbl (And.intro ht (And.intro hB0 hq))))
              clear hB0 hc hv hve hno hbl hbx hb hcall hs ih hNN hl hm ht hkv hkt hq hq3
              go_wp2_with fail
              refine HC.out.mono ?_
              rintro e w2 ⟨rfl, h2⟩
              clear HC k0 k1 k2 cX0 cX1 cX2
              have HE := Lib.hid h2
              clear h2
              cases q with
              | true =>
                go_wp2_with fail
                refine ⟨⟨k + 1, by go_num, by omega, fun j t' hj ht' => ?_, HK.out.2.2.2.1.keep HE.out, bstep HK.out.2.1 HE.out⟩, by simp [intOf]; omega⟩
                by_cases hjk : j = k
                · subst hjk
                  have := HK.out.2.2.1
                  rw [this] at ht'
                  cases ht'
                  exact HK.out.2.2.2.2
                · exact HK.out.1 j t' (by omega) ht'
              | false =>
                have hall : ts.all (rtB d) = false := List.all_eq_false.2 ⟨t, List.mem_of_getElem? HK.out.2.2.1, by rw [HK.out.2.2.2.2]; simp⟩
                have HF := Lib.hid (And.intro hall (bstep HK.out.2.1 HE.out))
                clear hall HK HE
                go_wp2_with fail
                go_ret
                exact ⟨by rw [HF.out.1]; rfl, HF.out.2⟩
            · obtain rfl : k = N := by omega
              have hall : ts.all (rtB d) = true := List.all_eq_true.2 fun t ht => by
                obtain ⟨i, hi⟩ := List.mem_iff_getElem?.1 ht
                obtain ⟨hNN, hl, _⟩ := HI.out
                exact hno i t (by have := (List.getElem?_eq_some_iff.1 hi).1; omega) hi
              have HK := Lib.hid (And.intro hall hbl)
              clear hbl hno hall hB0
              go_wp2_with fail
              go_ret
              exact ⟨by rw [HK.out.1]; rfl, HK.out.2⟩
        · have hE : rtB (d + 1) (.mk true l ts) = false := by
            obtain ⟨_, _, hm, _⟩ := HI.out
            rw [HRT.out, if_pos rfl]
            cases l with
            | nil => exact (h0 (by rw [← hm]; rfl)).elim
            | cons a r => rfl
          have g2 : (0 : Int) < (m : Int) := by omega
          rw [hE]
          clear hE HRT HI
          go_enter Tryd.func29, Tryd.ntmps29
          go_wp2_with fail
          go_ret
          exact ⟨rfl, HW.out⟩
end Go.Proofs.YtjmfnafbjfceoaaDoor
