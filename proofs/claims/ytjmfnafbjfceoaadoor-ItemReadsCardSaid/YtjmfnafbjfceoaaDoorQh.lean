/- Texts laid into one: Qh. -/
import Derived.Test.YtjmfnafbjfceoaaDoorJz
import Derived.Test.YtjmfnafbjfceoaaDoorQg
/- item: Same of any two items: slices.EqualFunc over items. -/
namespace Go.Proofs.YtjmfnafbjfceoaaDoor
open Go.RowKit Go.Shelf
attribute [local irreducible] lb wdG byA byC heL nuL toS
theorem Its.itso {B : Nat} {X : World} {iv : Value} {vs : List Value} (h : Its B X iv vs) : Itso B X iv vs := by
  obtain ⟨x, cap, h2, h3, h4, h5⟩ := h
  exact ⟨x, cap, h2, Nat.le_trans h3 h4, h5⟩
/-- What is laid well is laid as an argument may be. -/
theorem ItA.ito {B : Nat} {X : World} {t : It} {v : Value} (h : ItA B X t v) : ItO B X t v := by
  induction h with
  | mk b l ts v1 iv vs h1 h2 hl hN _ ih => exact ItO.mk b l ts v1 iv vs h1.bto h2.itso hl ih h1.n0

set_option maxRecDepth 100000 in
set_option maxHeartbeats 4000000 in
theorem equal_items (g : FuncId) (eg : ∀ args w, (callFunc g args).run Tryd.prog w = .ok (.enter g args) w) (B B2 : Nat) (iv jv : Value) (vs vu : List Value) (p : Nat → Bool) (w : World) (hN : vs.length ≤ 100000) (_hM : vu.length ≤ 100000) (hI : Itso B w iv vs) (hJ : Itso B2 w jv vu)
    (hF : ∀ (i : Nat) v v', vs[i]? = some v → vu[i]? = some v' → ∀ X, Below w.heap.size w X → Calls Tryd.prog g #[v, v'] X fun e w' => e = .returned (.bool (p i)) ∧ Below X.heap.size X w') :
    Calls Tryd.prog 32 #[iv, jv, .func (.func g) #[] #[]] w fun e w' => e = .returned (.bool (decide (vs.length = vu.length) && (List.range vs.length).all p)) ∧ Below w.heap.size w w' := by
  obtain ⟨x, c, rfl, _, hI⟩ := hI
  obtain ⟨y, d, rfl, _, hJ⟩ := hJ
  by_cases hnm : vs.length = vu.length
  · rw [decide_eq_true hnm, Bool.true_and]
    have HI := Lib.hid hI
    have HJ := Lib.hid hJ
    have HF := Lib.hid hF
    obtain ⟨N, hNN⟩ : ∃ N, vs.length = N := ⟨_, rfl⟩
    have hMM : vu.length = N := by omega
    have HNN := Lib.hid (And.intro hNN hMM)
    rw [hNN] at hN ⊢
    rw [hMM]
    clear hI hJ hF hNN hMM hnm
    go_enter Tryd.func32, Tryd.ntmps32
    go_wp2_with fail
    go_loopw [17] (fun i wr => ∃ k : Nat, i = .int .i64 (k : Int) ∧ k ≤ N ∧ (∀ j, j < k → p j = true) ∧ Below w.heap.size w wr) (fun i _ => N - (intOf i).toNat)
    case atStart => exact ⟨0, rfl, by omega, fun j h => by omega, Below.refl _ _⟩
    case round =>
      obtain ⟨k, rfl, hk, hno, hbl⟩ := hrel
      by_cases hlt : k < N
      · have hkI : (k : Int) < (N : Int) := by omega
        have hk0 : ¬ (k : Int) < 0 := by omega
        obtain ⟨v, hv⟩ : ∃ v, vs[k]? = some v := ⟨vs[k]'(by rw [HNN.out.1]; exact hlt), by simp [HNN.out.1, hlt]⟩
        obtain ⟨v', hv'⟩ : ∃ v, vu[k]? = some v := ⟨vu[k]'(by rw [HNN.out.2]; exact hlt), by simp [HNN.out.2, hlt]⟩
        obtain ⟨b1, o, rfl, hb, hbx, hc⟩ := HI.out (fun e => by rw [e] at hv; simp at hv)
        obtain ⟨b2, o2, rfl, hb2, hbx2, hc2⟩ := HJ.out (fun e => by rw [e] at hv'; simp at hv')
        obtain ⟨c1, x1, n1, d1, y1, m1, e1, hve, k0, k1, k2⟩ := hc k v hv
        obtain ⟨c3, x3, n3, d3, y3, m3, e3, hve3, l0, l1, l2⟩ := hc2 k v' hv'
        have k0 := (hbl.cell (p := ⟨b1, o + k * 3, none⟩) hbx).trans k0
        have k1 := (hbl.cell (p := ⟨b1, o + k * 3 + 1, none⟩) hbx).trans k1
        have k2 := (hbl.cell (p := ⟨b1, o + k * 3 + 2, none⟩) hbx).trans k2
        have hba := balloc hbl (.cells #[.bool c1, .slice x1 n1 d1, .slice y1 m1 e1] 25)
        have l0 := (hba.cell (p := ⟨b2, o2 + k * 3, none⟩) hbx2).trans l0
        have l1 := (hba.cell (p := ⟨b2, o2 + k * 3 + 1, none⟩) hbx2).trans l1
        have l2 := (hba.cell (p := ⟨b2, o2 + k * 3 + 2, none⟩) hbx2).trans l2
        have g1 : IntKind.i64.wrap ((k : Int) + 1) = (k : Int) + 1 := IntWalk.i64_in _ (by omega)
        have hbb := balloc hba (.cells #[.bool c3, .slice x3 n3 d3, .slice y3 m3 e3] 25)
        have hcall := HF.out k v v' hv hv' _ hbb
        rw [hve, hve3] at hcall
        obtain ⟨z, hz⟩ : ∃ z, p k = z := ⟨_, rfl⟩
        rw [hz] at hcall
        have HC := Lib.hid hcall
        have HK := Lib.hid (And.intro hno (And.intro hbb hz))
        clear hba hbb hc hc2 hv hv' hve hve3 hno hbl hbx hbx2 hb hb2 hcall hz
        go_wp2_with fail
        refine HC.out.mono ?_
        rintro e w2 ⟨rfl, h2⟩
        clear HC k0 k1 k2 l0 l1 l2
        have HE := Lib.hid (bstep HK.out.2.1 h2)
        clear h2
        cases z with
        | true =>
          go_wp2_with fail
          refine ⟨⟨k + 1, by go_num, by omega, fun j hj => ?_, HE.out⟩, by simp [intOf]; omega⟩
          by_cases hjk : j = k
          · rw [hjk]; exact HK.out.2.2
          · exact HK.out.1 j (by omega)
        | false =>
          have hall : (List.range N).all p = false := List.all_eq_false.2 ⟨k, List.mem_range.2 hlt, by rw [HK.out.2.2]; simp⟩
          have HF2 := Lib.hid (And.intro hall HE.out)
          clear hall HK HE
          go_wp2_with fail
          go_ret
          exact ⟨by rw [HF2.out.1]; rfl, HF2.out.2⟩
      · obtain rfl : k = N := by omega
        have hall : (List.range k).all p = true := List.all_eq_true.2 fun j hj => hno j (List.mem_range.1 hj)
        have HK := Lib.hid (And.intro hall hbl)
        clear hno hbl hall
        go_wp2_with fail
        go_ret
        exact ⟨by rw [HK.out.1]; rfl, HK.out.2⟩
  · have hnI : ¬ (vs.length : Int) = (vu.length : Int) := by omega
    rw [decide_eq_false hnm, Bool.false_and]
    obtain ⟨N, hNN⟩ : ∃ N, vs.length = N := ⟨_, rfl⟩
    obtain ⟨M, hMM⟩ : ∃ M, vu.length = M := ⟨_, rfl⟩
    rw [hNN, hMM] at hnI ⊢
    clear hNN hMM hI hJ hF hnm hN
    go_enter Tryd.func32, Tryd.ntmps32
    go_wp2_with fail
    go_ret
    exact ⟨rfl, Below.refl _ _⟩

set_option maxRecDepth 100000 in
set_option maxHeartbeats 4000000 in
/-- Same of any two items. -/
theorem same_o (B : Nat) (X : World) (t : It) (v : Value) (hv : ItO B X t v) : smT t → ∀ (u : It) (v2 : Value) (B2 : Nat) (w : World), Below X.heap.size X w → ItO B2 w u v2 → smT u →
    Calls Tryd.prog 15 #[v, v2] w fun e w' => e = .returned (.bool (sameT t u)) ∧ Below w.heap.size w w' := by
  induction hv with
  | mk b l ts v1 iv vs h1 h2 hl hs _ ih =>
    intro hst u v2 B2 w hX hu hsu
    cases hu with
    | mk c l2 us u1 ju vu k1 k2 hl2 hs2 _ =>
      obtain ⟨hq1, hq2, hq3⟩ : l.length ≤ 600 ∧ ts.length ≤ 600 ∧ ∀ (i : Nat) t, ts[i]? = some t → smT t := by cases hst with | mk _ _ _ q1 q2 q3 => exact ⟨q1, q2, q3⟩
      obtain ⟨hr1, hr2, hr3⟩ : l2.length ≤ 600 ∧ us.length ≤ 600 ∧ ∀ (i : Nat) t, us[i]? = some t → smT t := by cases hsu with | mk _ _ _ q1 q2 q3 => exact ⟨q1, q2, q3⟩
      obtain ⟨_, x, a, rfl, _⟩ := id h1
      obtain ⟨_, x2, a2, rfl, _⟩ := id k1
      obtain ⟨y, e, rfl, _, _⟩ := id h2
      obtain ⟨y2, e2, rfl, _, _⟩ := id k2
      have hW := balloc (balloc (Below.refl w.heap.size w) (.cells #[.bool b, .slice x l.length a, .slice y vs.length e] 25)) (.cells #[.bool c, .slice x2 l2.length a2, .slice y2 vu.length e2] 25)
      have hA := (Blk.new w 25 #[.bool b, .slice x l.length a, .slice y vs.length e]).alloc (.cells #[.bool c, .slice x2 l2.length a2, .slice y2 vu.length e2] 25)
      have hB := Blk.newS w (.cells #[.bool b, .slice x l.length a, .slice y vs.length e] 25) 25 #[.bool c, .slice x2 l2.length a2, .slice y2 vu.length e2]
      have hEq := fun (Z : World) (hZ : Below w.heap.size w Z) => equal_o B B2 _ _ l l2 Z (h1.new (bstep hX hZ)) (k1.new hZ) (by omega) (by omega)
      have hIt := fun (Z : World) (hZ : Below w.heap.size w Z) => equal_items 15 (enters_of Tryd.func15 (by kernel_rfl) rfl) B B2 _ _ vs vu (fun i => sameT ((ts[i]?).getD (.mk false [] [])) ((us[i]?).getD (.mk false [] []))) Z (by omega) (by omega) (h2.new (bstep hX hZ)) (k2.new hZ) (fun i v v' hvi hvi' Y hY => by
        have hi : i < ts.length := by have := (List.getElem?_eq_some_iff.1 hvi).1; omega
        have hi2 : i < us.length := by have := (List.getElem?_eq_some_iff.1 hvi').1; omega
        have e1 : ts[i]? = some ts[i] := by simp [hi]
        have e2 : us[i]? = some us[i] := by simp [hi2]
        rw [e1, e2]
        exact ih i _ v e1 hvi (hq3 i _ e1) _ v' B2 Y (bstep hX (bstep hZ hY)) ((hs2 i _ v' e2 hvi').new (bstep hZ hY)) (hr3 i _ e2))
      have hres : sameT (.mk b l ts) (.mk c l2 us) = (decide (b = c) && (decide (l = l2) && (decide (vs.length = vu.length) && (List.range vs.length).all fun i => sameT ((ts[i]?).getD (.mk false [] [])) ((us[i]?).getD (.mk false [] []))))) := by
        rw [Bool.eq_iff_iff, sameT_true]
        simp only [Bool.and_eq_true, decide_eq_true_eq, List.all_eq_true, List.mem_range, sameT_true]
        constructor
        · intro h
          injection h with h1 h2 h3
          subst h3
          exact ⟨h1, h2, by omega, fun i _ => rfl⟩
        · rintro ⟨rfl, rfl, hn, hi⟩
          have : ts = us := by
            apply List.ext_getElem?
            intro i
            by_cases h : i < vs.length
            · have h' := hi i h
              have e1 : ts[i]? = some (ts[i]'(by omega)) := by simp [show i < ts.length by omega]
              have e2 : us[i]? = some (us[i]'(by omega)) := by simp [show i < us.length by omega]
              rw [e1, e2] at h' ⊢
              exact congrArg some h'
            · rw [List.getElem?_eq_none (by omega), List.getElem?_eq_none (by omega)]
          rw [this]
      rw [hres]
      obtain ⟨N, hNN⟩ : ∃ N, vs.length = N := ⟨_, rfl⟩
      obtain ⟨M, hMM⟩ : ∃ M, vu.length = M := ⟨_, rfl⟩
      obtain ⟨ll, hll⟩ : ∃ ll, l.length = ll := ⟨_, rfl⟩
      obtain ⟨ml, hml⟩ : ∃ ml, l2.length = ml := ⟨_, rfl⟩
      rw [hNN, hMM, hll, hml] at hW hA hB
      rw [hNN, hMM] at hIt
      rw [hll, hml] at hEq

      rw [hNN, hMM, hll, hml]
      obtain ⟨q1, hq1'⟩ : ∃ q, decide (l = l2) = q := ⟨_, rfl⟩
      obtain ⟨q2, hq2'⟩ : ∃ q, (decide (N = M) && (List.range N).all fun i => sameT ((ts[i]?).getD (.mk false [] [])) ((us[i]?).getD (.mk false [] []))) = q := ⟨_, rfl⟩
      simp only [hq1'] at hEq
      simp only [hq2'] at hIt
      rw [hq1', hq2']
      have HX := Lib.hid (And.intro hA (And.intro hB hW))
      have HEQ := Lib.hid hEq
      have HIT := Lib.hid hIt
      clear hs hst hsu hq1 hq2 hr1 hr2 hll hml hMM hNN hW ih hs2 hq3 hr3 hl hl2 hX hq1' hq2' hres hA hB hEq hIt h1 h2 k1 k2
      by_cases hbc : b = c
      · subst hbc
        rw [decide_eq_true rfl, Bool.true_and]
        go_enter Tryd.func15, Tryd.ntmps15
        go_wp2_with fail
        refine (HEQ.out _ HX.out.2.2).mono ?_
        rintro e wk ⟨rfl, rfl⟩
        obtain ⟨hA, hB, hW⟩ := HX.out
        have cA := cell_of_row _ _ 2 _ _ _ hA
        have cB := cell_of_row _ _ 2 _ _ _ hB
        have HC := Lib.hid (HIT.out _ hW)
        have HW := Lib.hid hW
        clear hA hB hW HX HEQ HIT
        cases q1 with
        | true =>
          go_wp2_with fail
          refine HC.out.mono ?_
          rintro e wk ⟨rfl, h2⟩
          have HE := Lib.hid (bstep HW.out h2)
          clear HC h2 HW cA cB
          go_wp2_with fail
          go_ret
          exact ⟨rfl, HE.out⟩
        | false =>
          clear HC cA cB
          go_wp2_with fail
          go_ret
          exact ⟨rfl, HW.out⟩
      · have hbn : (b == c) = false := by simpa using hbc
        rw [decide_eq_false hbc, Bool.false_and]
        have HW := Lib.hid HX.out.2.2
        clear HX HEQ HIT
        go_enter Tryd.func15, Tryd.ntmps15
        go_wp2_with fail
        go_ret
        exact ⟨rfl, HW.out⟩
end Go.Proofs.YtjmfnafbjfceoaaDoor

/- item: few tells how many bytes and items there are. -/
namespace Go.Proofs.YtjmfnafbjfceoaaDoor
open Go.RowKit Go.Shelf
attribute [local irreducible] lb wdG byA byC heL
/-- How many items and bytes, so deep at most. -/
def totD : Nat → It → Nat
  | 0, _ => 0
  | d + 1, .mk _ l ts => 1 + l.length + (ts.map (totD d)).sum

set_option maxRecDepth 100000 in
set_option maxHeartbeats 4000000 in
/-- What is left of so many. -/
theorem few_tot (B : Nat) (X : World) (t : It) (v : Value) (hv : ItO B X t v) : ∀ (L : Int) (w : World), 0 < L → L ≤ 600 → Below X.heap.size X w →
    Calls Tryd.prog 8 #[v, .int .i64 L] w fun e w' => (∃ r : Int, e = .returned (.int .i64 r) ∧ r ≤ L - 1 ∧ (0 < r → smT t ∧ ∀ d, r + totD d t ≤ L)) ∧ Below w.heap.size w w' := by
  induction hv with
  | mk b l ts v1 iv vs h1 h2 hl hs _ ih =>
    intro L w hL0 hL hX
    obtain ⟨_, x, c, rfl, _, hlen, _⟩ := h1
    obtain ⟨y, d, rfl, hn, h2⟩ := h2
    obtain ⟨N, hNN⟩ : ∃ N, vs.length = N := ⟨_, rfl⟩
    obtain ⟨m, hm⟩ : ∃ m, l.length = m := ⟨_, rfl⟩
    have HI := Lib.hid (And.intro hNN (And.intro hl (And.intro hm (And.intro h2 (And.intro hs ih)))))
    rw [hNN] at hn ⊢
    rw [hm] at hlen ⊢
    clear hs ih h2 hl hm hNN
    have g1 : IntKind.i64.wrap (L - 1) = L - 1 := IntWalk.i64_in _ (by omega)
    have g2 : IntKind.i64.wrap (L - 1 - (m : Int)) = L - 1 - (m : Int) := IntWalk.i64_in _ (by omega)
    have hW := balloc (Below.refl w.heap.size w) (.cells #[.bool b, .slice x m c, .slice y N d] 25)
    have HW := Lib.hid (And.intro hW hX)
    clear hW hX
    go_enter Tryd.func8, Tryd.ntmps8
    go_wp2_with fail
    go_loopw [1, 5] (fun q i wr => ∃ k : Nat, ∃ r : Int, i = .int .i64 (k : Int) ∧ q = .int .i64 r ∧ k ≤ N ∧ r ≤ L - 1 - m - k ∧ (0 < r → (∀ j t, j < k → ts[j]? = some t → smT t) ∧ ∀ d, r + 1 + m + ((ts.take k).map (totD d)).sum ≤ L) ∧ Blk wr w.heap.size 25 #[.bool b, .slice x m c, .slice y N d] ∧ Below w.heap.size w wr) (fun _ i _ => N - (intOf i).toNat)
    case atStart => exact ⟨0, _, rfl, rfl, by omega, by omega, fun _ => ⟨fun j t h => by omega, fun d => by simp; omega⟩, Blk.new _ _ _, HW.out.1⟩
    case round =>
      obtain ⟨k, r, rfl, rfl, hk, hr, hsm, hB, hbl⟩ := hrel
      have cX0 := cell_of_row _ _ 0 _ _ _ hB
      have cX1 := cell_of_row _ _ 1 _ _ _ hB
      have cX2 := cell_of_row _ _ 2 _ _ _ hB
      by_cases hlt : k < N
      · by_cases hr0 : 0 < r
        · obtain ⟨hNN, hl, hm, h2, hs, ih⟩ := HI.out
          have hkI : (k : Int) < (N : Int) := by omega
          have hk0 : ¬ (k : Int) < 0 := by omega
          have hkv : k < vs.length := by omega
          have hkt : k < ts.length := by omega
          obtain ⟨v, hv⟩ : ∃ v, vs[k]? = some v := ⟨vs[k], by simp [hkv]⟩
          obtain ⟨t, ht⟩ : ∃ t, ts[k]? = some t := ⟨ts[k], by simp [hkt]⟩
          obtain ⟨b1, o, rfl, hb, hbx, hc⟩ := h2 (fun e => by rw [e] at hv; simp at hv)
          obtain ⟨c1, x1, n1, d1, y1, m1, e1, hve, k0, k1, k2⟩ := hc k v hv
          have hXr := bstep HW.out.2 hbl
          have k0 := (hXr.cell (p := ⟨b1, o + k * 3, none⟩) hbx).trans k0
          have k1 := (hXr.cell (p := ⟨b1, o + k * 3 + 1, none⟩) hbx).trans k1
          have k2 := (hXr.cell (p := ⟨b1, o + k * 3 + 2, none⟩) hbx).trans k2
          have g3 : IntKind.i64.wrap ((k : Int) + 1) = (k : Int) + 1 := IntWalk.i64_in _ (by omega)
          have hcall := ih k t v ht hv r wr hr0 (by omega) hXr
          rw [hve] at hcall
          have HC := Lib.hid hcall
          have HK := Lib.hid (And.intro hsm (And.intro hbl (And.intro ht hB)))
          clear hB hc hv hve hsm hbl hbx hb hcall hXr hs ih hNN hl hm ht hkv hkt
          go_wp2_with fail
          refine HC.out.mono ?_
          rintro e w2 ⟨⟨r2, rfl, hr2, hs2⟩, h2⟩
          clear HC k0 k1 k2 cX0 cX1 cX2
          have HE := Lib.hid (And.intro hr2 (And.intro hs2 h2))
          clear hr2 hs2 h2
          go_wp2_with fail
          refine ⟨⟨k + 1, r2, by go_num, rfl, by omega, by have := HE.out.1; omega, fun h0 => ⟨fun j t' hj ht' => ?_, fun d => ?_⟩, HK.out.2.2.2.keep HE.out.2.2, bstep HK.out.2.1 HE.out.2.2⟩, by simp [intOf]; omega⟩
          · by_cases hjk : j = k
            · subst hjk
              have := HK.out.2.2.1
              rw [this] at ht'
              cases ht'
              exact (HE.out.2.1 h0).1
            · exact (HK.out.1 hr0).1 j t' (by omega) ht'
          · have e1 := (HE.out.2.1 h0).2 d
            have e2 := (HK.out.1 hr0).2 d
            rw [List.take_add_one, HK.out.2.2.1]
            simp only [Option.toList_some, List.map_append, List.map_cons, List.map_nil, List.sum_append, List.sum_cons, List.sum_nil]
            omega
        · have HK := Lib.hid (And.intro hr hbl)
          clear hr hbl hsm hB
          go_wp2_with fail
          go_ret
          exact ⟨⟨r, rfl, by have := HK.out.1; omega, fun h => by omega⟩, HK.out.2⟩
      · obtain rfl : k = N := by omega
        have hI := HI.out
        have hres : 0 < r → smT (.mk b l ts) ∧ ∀ d, r + totD d (.mk b l ts) ≤ L := fun h0 => ⟨smT.mk b l ts (by omega) (by omega) (fun i t hi => (hsm h0).1 i t (by have := (List.getElem?_eq_some_iff.1 hi).1; omega) hi), fun d => by
          cases d with
          | zero => show r + ((0 : Nat) : Int) ≤ L; omega
          | succ d =>
            have e := (hsm h0).2 d
            rw [List.take_of_length_le (by omega)] at e
            show r + ((1 + l.length + (ts.map (totD d)).sum : Nat) : Int) ≤ L
            omega⟩
        have HK := Lib.hid (And.intro hr (And.intro hres hbl))
        clear hr hbl hsm hres hI hB
        go_wp2_with fail
        go_ret
        exact ⟨⟨r, rfl, by have := HK.out.1; omega, HK.out.2.1⟩, HK.out.2.2⟩
end Go.Proofs.YtjmfnafbjfceoaaDoor

/- item: the bytes of any tree, how many they are. -/
namespace Go.Proofs.YtjmfnafbjfceoaaDoor
open Go.RowKit Go.Shelf

/-- The bytes of an item, so deep at most. -/
def laT : Nat → It → List Nat
  | 0, _ => []
  | d + 1, .mk b l ts => if b then laL (ts.map (laT d)) else laB l
attribute [local irreducible] lb wdG byA byC
theorem laB_len (l : List Nat) (hl : l.length < 65536) : (laB l).length ≤ 3 + l.length := by
  unfold laB
  rw [List.length_append]
  split
  · simp
  · have := heL_len 128 l.length hl
    omega
theorem flat_len (f : It → List Nat) (g : It → Nat) : ∀ ts : List It, (∀ t ∈ ts, (f t).length ≤ 3 * g t) → (ts.map f).flatten.length ≤ 3 * (ts.map g).sum
  | [], _ => by simp
  | t :: ts, h => by
    simp only [List.map_cons, List.flatten_cons, List.length_append, List.sum_cons]
    have h1 := h t (by simp)
    have h2 := flat_len f g ts (fun u hu => h u (by simp [hu]))
    omega
theorem tot_mem (g : It → Nat) (t : It) : ∀ ts : List It, t ∈ ts → g t ≤ (ts.map g).sum
  | u :: ts, h => by
    simp only [List.map_cons, List.sum_cons]
    rcases List.mem_cons.1 h with h | h
    · subst h; omega
    · have := tot_mem g t ts h; omega
theorem laT_len : ∀ (d : Nat) (t : It), totD d t ≤ 10000 → (laT d t).length ≤ 3 * totD d t
  | 0, t, _ => by simp [laT]
  | d + 1, .mk b l ts, h => by
    have e : totD (d + 1) (.mk b l ts) = 1 + l.length + (ts.map (totD d)).sum := rfl
    rw [e] at h ⊢
    show (if b then laL (ts.map (laT d)) else laB l).length ≤ _
    cases b with
    | false =>
      rw [if_neg (by simp)]
      have := laB_len l (by omega)
      omega
    | true =>
      rw [if_pos rfl]
      have h1 := flat_len (laT d) (totD d) ts (fun t ht => laT_len d t (by have := tot_mem (totD d) t ts ht; omega))
      unfold laL
      rw [List.length_append]
      have h2 := heL_len 192 (toL (ts.map (laT d))) (by unfold toL; omega)
      omega
end Go.Proofs.YtjmfnafbjfceoaaDoor

/- item: laid of the bytes of an argument's item. -/
namespace Go.Proofs.YtjmfnafbjfceoaaDoor
open Go.RowKit Go.Shelf
attribute [local irreducible] lb wdG byA byC heL
/-- Bytes laid behind an own row of bytes, of an argument that has some. -/
theorem wpList_appo {w : World} {ops : Array Oper} {rest : List Oper} {o : Oper} {a : Act} {Q : Exit → Act → World → Prop} (hgd : o.guard = none) (s x : Operand)
    (ho : o.op = .call { callee := .builtin .append, args := #[s, x], argTypes := #[22, 22] })
    (base : Nat) (l : List Nat) (hown : Ow w base (a.eval s) l) (ad : Addr) (cap : Nat) (m : List Nat) (hm : ∀ z ∈ m, z < 256) (he : a.eval x = .slice (some ad) m.length cap) (hc : ∀ k u, m[k]? = some u → w.cell? (ad.add k) = some (.int .u8 (u : Nat))) (hn : l.length + m.length ≤ 1000000) (hb : base ≤ w.heap.size)
    (h : ∀ y c w', Ow w' base (.slice y (l ++ m).length c) (l ++ m) → w.grownBy w' (a.eval s).ownBlock → wpList Tryd.prog ops Q rest (a.put o.dst (.slice y (l ++ m).length c)) w') : wpList Tryd.prog ops Q (o :: rest) a w := by
  obtain ⟨i0, hi, hz0, hz1, hz2⟩ := info_parts' infoU8
  have hu : Tryd.prog.underlying 22 = some (.slice 5) := by kernel_rfl
  refine wpList_append_own _ hgd s x 22 ho base 5 i0 (.int .u8 0) 1 1 hu hi hz0 hz1 hz2 rfl (by decide) _ l.length (bvs l) rfl hown.2 ad m.length cap (bvs m) he (by rw [bvs_len]; omega) ?_ (bvs_one m) (by unfold maxLen; omega) (by omega) hb ?_
  · intro j u hj
    rw [bvs_get] at hj
    cases hmj : m[j]? with
    | none => rw [hmj] at hj; cases hj
    | some v =>
      rw [hmj] at hj
      cases hj
      exact hc j v hmj
  · intro v' w' ho' hg _
    have hO : Ow w' base v' (l ++ m) := ⟨fun z hz => (List.mem_append.1 hz).elim (hown.1 z) (hm z), by rw [← bvs_app, List.length_append]; exact ho'⟩
    obtain ⟨z, c, rfl⟩ := hO.is
    exact h z c w' hO hg
end Go.Proofs.YtjmfnafbjfceoaaDoor

/- item: the reference's head of any length. -/
namespace Go.Proofs.YtjmfnafbjfceoaaDoor
open Go.RowKit
attribute [local irreducible] lb wdG byA byC
attribute [local go_sem] field_bytes
set_option maxRecDepth 100000 in
set_option maxHeartbeats 2000000 in
theorem rhead_long (h n : Nat) (hh : h ≤ 192) (hn : 55 < n) (hn2 : n < 65536) (w : World) :
    Calls Tryd.prog 52 #[.int .i64 h, .int .i64 n] w fun e w' => ∃ x m c, e = .returned (.slice x m c) ∧ Ow w' w.heap.size (.slice x m c) (heL h n) ∧ Below w.heap.size w w' := by
  have g1 : ¬ (n : Int) ≤ 55 := by omega
  have w1 : IntKind.u64.wrap (n : Int) = (n : Int) := by rw [IntKind.wrap_u64]; omega
  have hwd := wd_small n (by omega) hn2
  have hm1 : 1 ≤ wdN n ∧ wdN n ≤ 2 := by rw [hwd]; split <;> omega
  clear hwd
  go_enter Tryd.func52, Tryd.ntmps52
  go_wp2_with fail
  refine (rof_any n (by unfold B64; omega) _).mono ?_
  rintro e w2 ⟨rfl, h1⟩
  have H1 := Lib.hid h1
  clear h1
  go_wp2_with fail
  refine (rnumber_bt n _).mono ?_
  rintro e w3 ⟨v, rfl, hv, h2⟩
  obtain ⟨hb, x, cap, rfl, hcap, _, hx⟩ := hv
  have hL := nbL_len n
  obtain ⟨bb, o, rfl, hbl, _, hc⟩ := hx (fun e => by rw [e] at hL; simp at hL; omega)
  have hW := bstep H1.out h2
  have hel : heL h n = (h + 55 + wdN n) :: nbL n := by unfold heL; rw [if_neg (by omega)]; rfl
  have hHe := Lib.hid hel
  clear hel
  obtain ⟨m, hm⟩ : ∃ m, wdN n = m := ⟨_, rfl⟩
  generalize nbL n = bl at hb hc hL hHe hcap ⊢
  rw [hL] at hcap ⊢
  rw [hm] at hL hm1 hHe hcap ⊢
  have w4 : IntKind.i64.wrap ((h : Int) + 55) = (h : Int) + 55 := IntWalk.i64_in _ (by omega)
  have w5 : IntKind.i64.wrap ((h : Int) + 55 + (m : Int)) = ((h + 55 + m : Nat) : Int) := (IntWalk.i64_in _ (by omega)).trans (by omega)
  have w6 : IntKind.u8.wrap ((h + 55 + m : Nat) : Int) = ((h + 55 + m : Nat) : Int) := by rw [IntKind.wrap_u8]; omega
  have hO : Ow (w3.alloc (.cells #[.int .u8 ((h + 55 + m : Nat) : Int)] 5)) w.heap.size (.slice (some ⟨w3.heap.size, 0, none⟩) 1 1) [h + 55 + m] := Ow.one (by omega) hW.size (Blk.new _ _ _)
  have hcs : ∀ k u, bl[k]? = some u → (w3.alloc (.cells #[.int .u8 ((h + 55 + m : Nat) : Int)] 5)).cell? ((⟨bb, o, none⟩ : Addr).add k) = some (.int .u8 (u : Nat)) := fun k u hu => by
    rw [Go.WideShapes.add_plain]
    exact ((balloc (Below.refl w3.heap.size w3) _).cell (p := ⟨bb, o + k, none⟩) hbl).trans (hc k u hu)
  have hHO := Lib.hid (And.intro hO (And.intro hcs (And.intro hL (And.intro hm hb))))
  have hHW := Lib.hid hW
  have hsz := hW.size
  clear hO hcs hb hc hL hm hW h2 H1
  go_wp2_with (first
      | (at_builtin; refine wpList_appo rfl _ _ rfl w.heap.size [h + 55 + m] hHO.out.1 ⟨bb, o, none⟩ cap bl hHO.out.2.2.2.2 (by rw [hHO.out.2.2.1]; rfl) hHO.out.2.1 ?c1 ?c2 ?_)
      | fail)
  case c1 => have := hHO.out.2.2.1; simp; omega
  case c2 => rw [World.size_alloc]; omega
  intro y c w5' hO5 hg5
  have hgr : (w3.alloc (.cells #[.int .u8 ((h + 55 + m : Nat) : Int)] 5)).grownBy w5' (some w3.heap.size) := hg5
  have hW5 := step_world (balloc hHW.out (.cells #[.int .u8 ((h + 55 + m : Nat) : Int)] 5)) hgr (Nat.le_refl _) hsz
  have HX := Lib.hid (And.intro hO5 hW5)
  clear hO5 hW5 hgr hg5 hHO
  obtain ⟨q, hq⟩ : ∃ q, bl.length + 1 = q := ⟨_, rfl⟩
  rw [hq] at HX ⊢
  clear hq
  go_wp2_with fail
  go_ret
  exact ⟨_, _, _, rfl, by rw [hHe.out]; exact HX.out.1, HX.out.2⟩
theorem rhead_any (h n : Nat) (hh : h ≤ 192) (hn : n < 65536) (w : World) :
    Calls Tryd.prog 52 #[.int .i64 h, .int .i64 n] w fun e w' => ∃ x m c, e = .returned (.slice x m c) ∧ Ow w' w.heap.size (.slice x m c) (heL h n) ∧ Below w.heap.size w w' := by
  by_cases h55 : n ≤ 55
  · refine (rhead_short h n hh h55 w).mono ?_
    rintro e w' ⟨B, rfl, hB, hb, h1⟩
    have e : heL h n = [h + n] := by unfold heL; rw [if_pos h55]
    rw [e]
    exact ⟨_, _, _, rfl, Ow.one (by omega) hb hB, h1⟩
  · exact rhead_long h n hh (by omega) hn w
end Go.Proofs.YtjmfnafbjfceoaaDoor

/- item: the reference's bytes of an item of bytes. -/
namespace Go.Proofs.YtjmfnafbjfceoaaDoor
open Go.RowKit
attribute [local irreducible] lb wdG byA byC heL
set_option maxRecDepth 100000 in
set_option maxHeartbeats 2000000 in
theorem rbytes_one (B : Nat) (x : Option Addr) (c u : Nat) (y : Option Addr) (n d : Nat) (w : World) (hv : Bto B w (.slice x 1 c) [u]) (hu : u < 128) :
    Calls Tryd.prog 30 #[.agg #[.bool false, .slice x 1 c, .slice y n d]] w fun e w' => ∃ x m c, e = .returned (.slice x m c) ∧ Ow w' w.heap.size (.slice x m c) [u] ∧ Below w.heap.size w w' := by
  obtain ⟨_, x', c', he, _, _, hx⟩ := hv
  obtain ⟨bb, o, e, hbl, hbx, hc⟩ := hx (by simp)
  cases he
  subst e
  have hW := balloc (Below.refl w.heap.size w) (.cells #[.bool false, .slice (some ⟨bb, o, none⟩) 1 c, .slice y n d] 25)
  have k0 := (hW.cell (p := ⟨bb, o, none⟩) hbx).trans (by have := hc 0 u rfl; simpa using this)
  have g1 : (u : Int) < 128 := by omega
  have HW := Lib.hid hW
  clear hW hc
  go_enter Tryd.func30, Tryd.ntmps30
  go_wp2_with fail
  go_ret
  exact ⟨_, _, _, rfl, Ow.one (by omega) (Nat.le_succ _) (Blk.newS w _ _ _), balloc HW.out _⟩

/-- Bytes of an argument laid behind an own row of bytes. -/
theorem wpList_appq {w : World} {ops : Array Oper} {rest : List Oper} {o : Oper} {a : Act} {Q : Exit → Act → World → Prop} (hgd : o.guard = none) (s x : Operand)
    (ho : o.op = .call { callee := .builtin .append, args := #[s, x], argTypes := #[22, 22] })
    (base : Nat) (l : List Nat) (hown : Ow w base (a.eval s) l) (B : Nat) (m : List Nat) (v : Value) (he : a.eval x = v) (hx : Bto B w v m) (hz : ∀ n c, v = .slice none n c → c = 0) (hn : l.length + m.length ≤ 1000000) (hb : base ≤ w.heap.size)
    (h : ∀ y c w', Ow w' base (.slice y (l ++ m).length c) (l ++ m) → w.grownBy w' (a.eval s).ownBlock → wpList Tryd.prog ops Q rest (a.put o.dst (.slice y (l ++ m).length c)) w') : wpList Tryd.prog ops Q (o :: rest) a w := by
  obtain ⟨hm, y, cap, rfl, h3, h4, h5⟩ := hx
  cases y with
  | none =>
    have hm0 : m = [] := by
      refine Classical.byContradiction fun hne => ?_
      obtain ⟨b, o, e, _⟩ := h5 hne
      cases e
    subst hm0
    obtain rfl := hz _ _ rfl
    obtain ⟨i0, hi, _⟩ := info_parts' infoU8
    have hu : Tryd.prog.underlying 22 = some (.slice 5) := by kernel_rfl
    refine wpList_append_own_none hgd s x 22 ho base 5 i0 1 hu hi _ _ _ rfl hown.2 he ?_
    obtain ⟨z, c, hv⟩ := hown.is
    have hE : l ++ ([] : List Nat) = l := by simp
    have h' := h z c w
    rw [hE, ← hv] at h'
    exact h' hown (World.grownBy.refl w _)
  | some ad =>
    refine wpList_appo hgd s x ho base l hown ad cap m hm he (fun k u hu => ?_) hn hb h
    obtain ⟨b, o, e, _, _, hc⟩ := h5 (fun e => by rw [e] at hu; simp at hu)
    cases e
    rw [Go.WideShapes.add_plain]
    exact hc k u hu
end Go.Proofs.YtjmfnafbjfceoaaDoor

