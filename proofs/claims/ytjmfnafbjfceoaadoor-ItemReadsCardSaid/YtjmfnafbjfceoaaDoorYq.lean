/- item's law: ItemHolds: items' bytes in plain lists; the walk. -/
import Derived.Test.YtjmfnafbjfceoaaDoorQh
import Derived.Test.YtjmfnafbjfceoaaDoorQf
import Derived.Test.YtjmfnafbjfceoaaDoorJx
import Derived.Test.YtjmfnafbjfceoaaDoorQi
import Derived.Test.YtjmfnafbjfceoaaDoorQj
import Derived.Test.YtjmfnafbjfceoaaDoorYp
import Derived.Deep.QuietTactic
import Derived.BigQuiet
namespace Go.Proofs.YtjmfnafbjfceoaaDoor
open Go.RowKit Go.Shelf Go.ChangeShapes Go.WideShapes Go.ChangeAt
attribute [local irreducible] lb wdG byA byC nuL toS heL
theorem laT_ne (d : Nat) (t : It) (hr : rtB d t = true) (hl : (laT d t).length < 65536) : laT d t ≠ [] := fun h => by
  have := cut_laT d t [] hr hl
  rw [h] at this
  cases this
theorem kT_list {b : Bool} {l : List Nat} {ts : List It} : kT (.mk b l ts) = if b then 2 else koL l := rfl
theorem laT_inj (d : Nat) : ∀ (t u : It) (r s : List Nat), rtB d t = true → rtB d u = true → (laT d t).length < 65536 → (laT d u).length < 65536 → laT d t ++ r = laT d u ++ s → t = u ∧ r = s := by
  induction d with
  | zero => intro t u r s h; simp [rtB] at h
  | succ d ih =>
    intro t u r s ht hu hlt hlu he
    have h1 := cut_laT (d + 1) t r ht hlt
    have h2 := cut_laT (d + 1) u s hu hlu
    rw [he, h2] at h1
    injection h1 with h1
    injection h1 with hk h1
    injection h1 with hb hrs
    refine ⟨?_, hrs.symm⟩
    obtain ⟨b, l, ts⟩ := t
    obtain ⟨b', l', us⟩ := u
    rw [kT_list, kT_list] at hk
    cases b with
    | false =>
      cases b' with
      | true => have := koL_le l; rw [if_pos rfl, if_neg (by simp)] at hk; omega
      | false =>
        have e1 : ts = [] := by simpa [rtB] using ht
        have e2 : us = [] := by simpa [rtB] using hu
        have e3 : l' = l := hb
        rw [e1, e2, e3]
    | true =>
      cases b' with
      | false => have := koL_le l'; rw [if_neg (by simp), if_pos rfl] at hk; omega
      | true =>
        have ht' : (l.isEmpty && ts.all (rtB d)) = true := ht
        have hu' : (l'.isEmpty && us.all (rtB d)) = true := hu
        rw [Bool.and_eq_true] at ht' hu'
        have e1 : l = [] := by simpa using ht'.1
        have e2 : l' = [] := by simpa using hu'.1
        have hb' : (us.map (laT d)).flatten = (ts.map (laT d)).flatten := hb
        have hlt' : (ts.map (laT d)).flatten.length < 65536 := Nat.lt_of_le_of_lt (bo_le (d + 1) (.mk true l ts)) hlt
        have hlu' : (us.map (laT d)).flatten.length < 65536 := Nat.lt_of_le_of_lt (bo_le (d + 1) (.mk true l' us)) hlu
        have key : ∀ (ts us : List It), ts.all (rtB d) = true → us.all (rtB d) = true → (ts.map (laT d)).flatten.length < 65536 → (us.map (laT d)).flatten.length < 65536 → (us.map (laT d)).flatten = (ts.map (laT d)).flatten → ts = us := by
          intro ts
          induction ts with
          | nil =>
            intro us _ h2 _ hl2 he
            cases us with
            | nil => rfl
            | cons u us =>
              simp only [List.map_cons, List.flatten_cons, List.map_nil, List.flatten_nil, List.append_eq_nil_iff] at he
              simp only [List.map_cons, List.flatten_cons, List.length_append] at hl2
              exact absurd he.1 (laT_ne d u (List.all_eq_true.1 h2 u (by simp)) (by omega))
          | cons t ts iht =>
            intro us h1 h2 hl1 hl2 he
            simp only [List.map_cons, List.flatten_cons, List.length_append] at hl1
            cases us with
            | nil =>
              simp only [List.map_cons, List.flatten_cons, List.map_nil, List.flatten_nil] at he
              have he' := List.append_eq_nil_iff.1 he.symm
              exact absurd he'.1 (laT_ne d t (List.all_eq_true.1 h1 t (by simp)) (by omega))
            | cons u us =>
              simp only [List.map_cons, List.flatten_cons] at he
              simp only [List.map_cons, List.flatten_cons, List.length_append] at hl2
              obtain ⟨q1, q2⟩ := ih u t _ _ (List.all_eq_true.1 h2 u (by simp)) (List.all_eq_true.1 h1 t (by simp)) (by omega) (by omega) he
              have h1' : ts.all (rtB d) = true := by rw [List.all_cons, Bool.and_eq_true] at h1; exact h1.2
              have h2' : us.all (rtB d) = true := by rw [List.all_cons, Bool.and_eq_true] at h2; exact h2.2
              rw [q1, iht us h1' h2' (by omega) (by omega) q2]
        rw [e1, e2, key ts us ht'.2 hu'.2 hlt' hlu' hb']
/-- No item's bytes begin another one's. -/
theorem laT_begins (d : Nat) (t u : It) (ht : rtB d t = true) (hu : rtB d u = true) (hlt : (laT d t).length < 65536) (hlu : (laT d u).length < 65536) : ((laT d t).length ≤ (laT d u).length ∧ (laT d u).take (laT d t).length = laT d t) ↔ t = u := by
  constructor
  · rintro ⟨_, h⟩
    have e : laT d t ++ (laT d u).drop (laT d t).length = laT d u ++ [] := by
      rw [List.append_nil]
      have h2 := List.take_append_drop (laT d t).length (laT d u)
      rw [h] at h2
      exact h2
    exact (laT_inj d t u _ _ ht hu hlt hlu e).1
  · rintro rfl
    exact ⟨Nat.le_refl _, List.take_length⟩
theorem Ow.empty (w : World) : Ow (w.alloc (.cells #[] 5)) w.heap.size (.slice (some ⟨w.heap.size, 0, none⟩) 0 0) [] :=
  ⟨by simp, rfl, .inr ⟨w.heap.size, 0, #[], rfl, Nat.le_refl _, heap_alloc_new w _, Nat.le_refl _, by unfold maxLen; omega, rfl, rfl⟩⟩
set_option maxRecDepth 100000 in
set_option maxHeartbeats 8000000 in
theorem holds_walk6 (t u : It) (v v2 : Value) (x3 : Option Addr) (c3 : Nat) (lb3 : List Nat) (w : World) (hv : ItO w.heap.size w t v) (hv2 : ItO w.heap.size w u v2) (h3 : Bto w.heap.size w (.slice x3 lb3.length c3) lb3) (hz3 : ∀ n c, Value.slice x3 lb3.length c3 = .slice none n c → c = 0) (hH : HD w) :
    Calls Tryd.prog 7 #[v, v2, .slice x3 lb3.length c3] w fun e w' => e = .returned (.bool true) ∧ Below w.heap.size w w' := by
  obtain ⟨b, x, m, c, y, n, d, hvv⟩ := id hv.is
  unfold itW at hvv
  subst hvv
  obtain ⟨b', x', m', c', y', n', d', hvv⟩ := id hv2.is
  unfold itW at hvv
  subst hvv
  have HH := Lib.hid (And.intro hH (And.intro hv (And.intro hv2 (And.intro h3 hz3))))
  obtain ⟨q, hq⟩ : ∃ q, lb3.length = q := ⟨_, rfl⟩
  have HQ := Lib.hid hq
  rw [hq] at HH ⊢
  clear hH hv hv2 h3 hz3 hq
  go_enter Tryd.func7, Tryd.ntmps7
  go_wp2_with fail
  have hW0 : Below w.heap.size w ((w.alloc (.cells #[.bool b, .slice x m c, .slice y n d] 25)).alloc (.cells #[.bool b', .slice x' m' c', .slice y' n' d'] 25)) := balloc (balloc (Below.refl _ _) _) _
  have hX0 := (Blk.new w 25 #[.bool b, .slice x m c, .slice y n d]).alloc (.cells #[.bool b', .slice x' m' c', .slice y' n' d'] 25)
  have hY0 := Blk.newS w (.cells #[.bool b, .slice x m c, .slice y n d] 25) 25 #[.bool b', .slice x' m' c', .slice y' n' d']
  obtain ⟨W0, hWW⟩ : ∃ W0, ((w.alloc (.cells #[.bool b, .slice x m c, .slice y n d] 25)).alloc (.cells #[.bool b', .slice x' m' c', .slice y' n' d'] 25)) = W0 := ⟨_, rfl⟩
  rw [hWW] at hW0 hX0 hY0 ⊢
  have HK := Lib.hid (fun (w' : World) (h : Below W0.heap.size W0 w') => And.intro (show w'.cell? ⟨w.heap.size, 0, none⟩ = some (.bool b) ∧ w'.cell? ⟨w.heap.size, 1, none⟩ = some (.slice x m c) ∧ w'.cell? ⟨w.heap.size, 2, none⟩ = some (.slice y n d) from ⟨cell_of_row _ _ 0 _ _ _ (hX0.keep h), cell_of_row _ _ 1 _ _ _ (hX0.keep h), cell_of_row _ _ 2 _ _ _ (hX0.keep h)⟩)
    (show w'.cell? ⟨w.heap.size + 1, 0, none⟩ = some (.bool b') ∧ w'.cell? ⟨w.heap.size + 1, 1, none⟩ = some (.slice x' m' c') ∧ w'.cell? ⟨w.heap.size + 1, 2, none⟩ = some (.slice y' n' d') from ⟨cell_of_row _ _ 0 _ _ _ (hY0.keep h), cell_of_row _ _ 1 _ _ _ (hY0.keep h), cell_of_row _ _ 2 _ _ _ (hY0.keep h)⟩))
  have HW := Lib.hid hW0
  clear hW0 hX0 hY0 hWW
  refine (few_tot w.heap.size w t _ HH.out.2.1 600 _ (by omega) (Int.le_refl _) HW.out).mono ?_
  rintro e w1 ⟨⟨r, rfl, _, hr⟩, h1⟩
  by_cases hr0 : 0 < r
  · obtain ⟨hsm, htot⟩ := hr hr0
    have g0 : ¬ r ≤ 0 := by omega
    obtain ⟨⟨k0, k1, k2⟩, l0, l1, l2⟩ := HK.out w1 h1
    have hlt : (laT 8 t).length ≤ 1800 := by
      have h1 := htot 8
      have h2 := laT_len 8 t (by omega)
      omega
    have HT := Lib.hid (And.intro hsm hlt)
    have H1 := Lib.hid h1
    clear hr hsm htot hlt h1
    go_wp2_with fail
    refine (few_tot w.heap.size w u _ HH.out.2.2.1 600 _ (by omega) (Int.le_refl _) (bstep HW.out H1.out)).mono ?_
    rintro e w2 ⟨⟨r2, rfl, _, hr2⟩, h2⟩
    clear k0 k1 k2 l0 l1 l2
    have H2 := Lib.hid (bstep H1.out h2)
    clear h2 H1
    by_cases hr20 : 0 < r2
    · obtain ⟨hsm, htot⟩ := hr2 hr20
      have g1 : ¬ r2 ≤ 0 := by omega
      have hlu : (laT 8 u).length ≤ 1800 := by
        have h1 := htot 8
        have h2 := laT_len 8 u (by omega)
        omega
      have HU := Lib.hid (And.intro hsm hlu)
      clear hr2 hsm htot hlu
      by_cases hq : q ≤ 100
      · have g2 : ¬ (100 : Int) < (q : Int) := by omega
        obtain ⟨⟨k0, k1, k2⟩, l0, l1, l2⟩ := HK.out w2 H2.out
        cases hrt : rtB 8 t with
        | false =>
          have HE := Lib.hid (encode_noto t _ w.heap.size w2 (bstep HW.out H2.out).size (HH.out.2.1.new (bstep HW.out H2.out)) HT.out.1 hrt)
          clear hrt
          go_wp2_with fail
          refine HE.out.mono ?_
          rintro e w3 ⟨rfl, h3⟩
          clear HE k0 k1 k2 l0 l1 l2
          have H3 := Lib.hid (bstep H2.out h3)
          clear h3 H2
          obtain ⟨⟨k0, k1, k2⟩, l0, l1, l2⟩ := HK.out w3 H3.out
          cases hru : rtB 8 u with
          | false =>
            have HE := Lib.hid (encode_noto u _ w.heap.size w3 (bstep HW.out H3.out).size (HH.out.2.2.1.new (bstep HW.out H3.out)) HU.out.1 hru)
            clear hru
            go_wp2_with fail
            refine HE.out.mono ?_
            rintro e w4 ⟨rfl, h4⟩
            clear HE k0 k1 k2 l0 l1 l2
            have H4 := Lib.hid (bstep HW.out (bstep H3.out h4))
            clear h4 H3
            have HWk := Lib.hid (works_any6 w4 (HH.out.1.keep H4.out))
            go_wp2_with (first | (go_at_call 12; refine (num_any _ _).mono ?_; rintro e wx ⟨rfl, rfl⟩) | fail)
            refine HWk.out.mono ?_
            rintro e wz ⟨rfl, hz⟩
            have HZ := Lib.hid (bstep H4.out hz)
            clear hz HWk
            go_wp2_with fail
            go_ret
            exact ⟨rfl, HZ.out⟩
          | true =>
            have HE := Lib.hid (encode_o u _ w.heap.size w3 (bstep HW.out H3.out).size (HH.out.2.2.1.new (bstep HW.out H3.out)) HU.out.1 hru (by have := HU.out.2; omega) (HH.out.1.keep (bstep HW.out H3.out)))
            clear hru
            go_wp2_with fail
            refine HE.out.mono ?_
            rintro e w4 ⟨z4, p4, q4, rfl, _, h4⟩
            clear HE k0 k1 k2 l0 l1 l2
            have H4 := Lib.hid (bstep HW.out (bstep H3.out h4))
            clear h4 H3
            have HWk := Lib.hid (works_any6 w4 (HH.out.1.keep H4.out))
            go_wp2_with (first | (go_at_call 12; refine (num_any _ _).mono ?_; rintro e wx ⟨rfl, rfl⟩) | fail)
            refine HWk.out.mono ?_
            rintro e wz ⟨rfl, hz⟩
            have HZ := Lib.hid (bstep H4.out hz)
            clear hz HWk
            go_wp2_with fail
            go_ret
            exact ⟨rfl, HZ.out⟩
        | true =>
          have HE := Lib.hid (encode_o t _ w.heap.size w2 (bstep HW.out H2.out).size (HH.out.2.1.new (bstep HW.out H2.out)) HT.out.1 hrt (by have := HT.out.2; omega) (HH.out.1.keep (bstep HW.out H2.out)))
          have HRT := Lib.hid hrt
          clear hrt
          go_wp2_with fail
          refine HE.out.mono ?_
          rintro e w3 ⟨z3, p3, q3, rfl, hO3, h3⟩
          clear HE k0 k1 k2 l0 l1 l2
          have H3 := Lib.hid (And.intro (bstep H2.out h3) (And.intro hO3 (bstep HW.out H2.out).size))
          clear h3 H2 hO3
          obtain ⟨⟨k0, k1, k2⟩, l0, l1, l2⟩ := HK.out w3 H3.out.1
          cases hru : rtB 8 u with
          | false =>
            have HE := Lib.hid (encode_noto u _ w.heap.size w3 (bstep HW.out H3.out.1).size (HH.out.2.2.1.new (bstep HW.out H3.out.1)) HU.out.1 hru)
            clear hru
            go_wp2_with fail
            refine HE.out.mono ?_
            rintro e w4 ⟨rfl, h4⟩
            clear HE k0 k1 k2 l0 l1 l2
            have H4 := Lib.hid (bstep HW.out (bstep H3.out.1 h4))
            clear h4 H3
            have HWk := Lib.hid (works_any6 w4 (HH.out.1.keep H4.out))
            go_wp2_with (first | (go_at_call 12; refine (num_any _ _).mono ?_; rintro e wx ⟨rfl, rfl⟩) | fail)
            refine HWk.out.mono ?_
            rintro e wz ⟨rfl, hz⟩
            have HZ := Lib.hid (bstep H4.out hz)
            clear hz HWk
            go_wp2_with fail
            go_ret
            exact ⟨rfl, HZ.out⟩
          | true =>
            have HE := Lib.hid (encode_o u _ w.heap.size w3 (bstep HW.out H3.out.1).size (HH.out.2.2.1.new (bstep HW.out H3.out.1)) HU.out.1 hru (by have := HU.out.2; omega) (HH.out.1.keep (bstep HW.out H3.out.1)))
            have HRU := Lib.hid hru
            clear hru
            go_wp2_with fail
            refine HE.out.mono ?_
            rintro e w4 ⟨z4, p4, q4, rfl, hO4, h4⟩
            clear HE k0 k1 k2 l0 l1 l2
            obtain ⟨hb3, hO3, hs3⟩ := H3.out
            obtain ⟨_, _, he⟩ := hO3.is
            cases he
            obtain ⟨_, _, he⟩ := hO4.is
            cases he
            have H4 := Lib.hid (And.intro (bstep hb3 h4) (And.intro (hO3.new h4) hO4))
            clear h4 H3 hO3 hO4 hb3 hs3
            obtain ⟨la, hla⟩ : ∃ la, laT 8 t = la := ⟨_, rfl⟩
            obtain ⟨lu, hlu⟩ : ∃ lu, laT 8 u = lu := ⟨_, rfl⟩
            obtain ⟨p, hp⟩ : ∃ p, la.length = p := ⟨_, rfl⟩
            obtain ⟨p2, hp2⟩ : ∃ p2, lu.length = p2 := ⟨_, rfl⟩
            have HL := Lib.hid (And.intro hla (And.intro hlu (And.intro hp hp2)))
            rw [hla, hlu, hp, hp2] at H4
            rw [hla, hp, hlu, hp2]
            clear hla hlu hp hp2
            have hcap := fun n c (h : Value.slice z3 p q3 = .slice none n c) => (h ▸ H4.out.2.1).cap0
            have hA5 : Below w4.heap.size w4 (w4.alloc (.cells #[] 5)) := balloc (Below.refl _ _) _
            have hbt := (H4.out.2.1.new hA5).bt.bto
            have HA := Lib.hid (And.intro hcap (And.intro hbt hA5))
            clear hcap hbt hA5
            go_wp2_with (first
              | (go_at_call 12; refine (num_any _ _).mono ?_; rintro e wx ⟨rfl, rfl⟩)
              | (at_builtin; refine wpList_appz rfl _ _ rfl w4.heap.size [] (Ow.empty w4) _ la _ rfl HA.out.2.1 HA.out.1 (by have h1 := HL.out.2.2.1; have h2 := HT.out.2; rw [HL.out.1] at h2; simp; omega) HA.out.2.2.size la p (List.nil_append la) HL.out.2.2.1 ?_)
              | fail)
            intro y5 c5 w5 hO5 hg5
            obtain ⟨hb4, hOa, hOb⟩ := H4.out
            have hw5 : Below w4.heap.size w4 w5 := HA.out.2.2.grown hg5 HA.out.2.2.size (fun k e => by have := ((Ow.empty w4).2.lt k e).1; omega)
            have hbh := HH.out.2.2.2.1.new (bstep HW.out (bstep hb4 hw5))
            have H5 := Lib.hid (And.intro hb4 (And.intro hOa (And.intro hOb (And.intro hO5 (And.intro hbh hw5)))))
            clear hb4 hOa hOb hw5 hO5 hg5 hbh HA H4
            obtain ⟨zz, hzz⟩ : ∃ zz, la ++ lb3 = zz := ⟨_, rfl⟩
            obtain ⟨pq, hpq⟩ : ∃ pq, zz.length = pq := ⟨_, rfl⟩
            have HZZ := Lib.hid (And.intro hzz hpq)
            clear hzz hpq
            go_wp2_with (first
              | (at_builtin; refine wpList_appz rfl _ _ rfl w4.heap.size la H5.out.2.2.2.1 _ lb3 _ rfl H5.out.2.2.2.2.1 HH.out.2.2.2.2 (by have h1 := HL.out.2.2.1; have h2 := HT.out.2; rw [HL.out.1] at h2; have := HQ.out; omega) H5.out.2.2.2.2.2.size zz pq HZZ.out.1 HZZ.out.2 ?_)
              | fail)
            intro y6 c6 w6 hO6 hg6
            obtain ⟨hb4, hOa, hOb, hO5, _, hw5⟩ := H5.out
            have hw6 : Below w4.heap.size w4 w6 := hw5.grown hg6 hw5.size (fun k e => by have := (hO5.2.lt k e).1; omega)
            have hb6 := bstep hb4 hw6
            have hbt : Bt w6.heap.size w6 (.slice y6 pq c6) (laT 8 t ++ lb3) := by rw [HL.out.1, HZZ.out.1]; exact hO6.bt
            have hln : (laT 8 t ++ lb3).length ≤ 4096 := by rw [HL.out.1, List.length_append]; have h1 := HT.out.2; rw [HL.out.1] at h1; have := HQ.out; omega
            have HF := Lib.hid (first_laT t w6.heap.size (.slice y6 pq c6) lb3 w6 hbt (Nat.le_refl _) (HH.out.1.keep (bstep HW.out hb6)) HT.out.1 HRT.out hln)
            rw [HL.out.1, HL.out.2.2.1] at HF
            have H6 := Lib.hid (And.intro hb6 (And.intro (hOa.new hw6) (hOb.new hw6)))
            clear hb4 hOa hOb hO5 hw5 hw6 hb6 hbt hln H5 hO6 hg6
            go_wp2_with fail
            refine HF.out.mono ?_
            rintro e w7 ⟨b7, x7, m7, c7, y7, n7, d7, rfl, hI7, h7⟩
            have hst7 := bstep h7 (balloc (Below.refl w7.heap.size w7) (.cells #[.bool b7, .slice x7 m7 c7, .slice y7 n7 d7] 25))
            have hZ7 := Blk.new w7 25 #[.bool b7, .slice x7 m7 c7, .slice y7 n7 d7]
            have hI8 := hI7.ito.new (balloc (Below.refl w7.heap.size w7) (.cells #[.bool b7, .slice x7 m7 c7, .slice y7 n7 d7] 25))
            have H7 := Lib.hid (And.intro (bstep H6.out.1 hst7) (And.intro (H6.out.2.1.new hst7) (And.intro (H6.out.2.2.new hst7) (And.intro hZ7 hI8))))
            clear h7 hst7 hZ7 hI8 hI7 H6 HF
            obtain ⟨⟨k0, k1, k2⟩, l0, l1, l2⟩ := HK.out _ H7.out.1
            go_wp2_with (first | (go_at_call 12; refine (num_any _ _).mono ?_; rintro e wx ⟨rfl, rfl⟩) | fail)
            have hTT : sameT t t = true := (sameT_true t t).2 rfl
            have HS := Lib.hid (same_o _ _ t _ H7.out.2.2.2.2 HT.out.1 t _ w.heap.size _ (Below.refl _ _) (HH.out.2.1.new (bstep HW.out H7.out.1)) HT.out.1)
            rw [hTT] at HS
            clear hTT k0 k1 k2 l0 l1 l2
            refine HS.out.mono ?_
            rintro e w8 ⟨rfl, h8⟩
            have H8 := Lib.hid (And.intro (bstep H7.out.1 h8) (And.intro (H7.out.2.1.new h8) (H7.out.2.2.1.new h8)))
            clear h8 HS H7
            obtain ⟨⟨k0, k1, k2⟩, l0, l1, l2⟩ := HK.out _ H8.out.1
            have HS := Lib.hid (fun X (h : Below w8.heap.size w8 X) => same_o _ w t _ HH.out.2.1 HT.out.1 u _ w.heap.size X (bstep (bstep HW.out H8.out.1) h) (HH.out.2.2.1.new (bstep (bstep HW.out H8.out.1) h)) HU.out.1)
            have hbeg := laT_begins 8 t u HRT.out HRU.out (by have := HT.out.2; omega) (by have := HU.out.2; omega)
            rw [HL.out.1, HL.out.2.1, HL.out.2.2.1, HL.out.2.2.2] at hbeg
            have hpp : p ≤ 1800 ∧ p2 ≤ 1800 := by
              have h1 := HT.out.2
              have h2 := HU.out.2
              rw [HL.out.1, HL.out.2.2.1] at h1
              rw [HL.out.2.1, HL.out.2.2.2] at h2
              exact ⟨h1, h2⟩
            by_cases hle : p ≤ p2
            · have g5 : (p : Int) ≤ (p2 : Int) := by omega
              obtain ⟨hp0, hcp, b4, o4, rfl⟩ : 0 ≤ (p : Int) ∧ (p : Int) ≤ (q4 : Int) ∧ ∃ b4 o4, z4 = some ⟨b4, o4, none⟩ := by
                obtain ⟨_, x5, c5, he5, hc5, _, h5⟩ := H8.out.2.2.bt
                cases he5
                refine ⟨by omega, by have := HL.out.2.2.2; omega, ?_⟩
                rcases h5 with ⟨_, h, _⟩ | ⟨b, o, h, _⟩
                · exact absurd (HL.out.2.1.trans h) (laT_ne 8 u HRU.out (by have := HU.out.2; omega))
                · exact ⟨b, o, h⟩
              have cA : ∀ k, (convert 22 9 (.slice z3 p q3)).run Tryd.prog (w8.drewN k) = .ok (.string (toS la)) (w8.drewN k) := fun k => by
                have h := conv_bytes w8.heap.size _ la (w8.drewN k) (H8.out.2.1.bt.new (below_drewN (Below.refl _ w8) k)) (by have := HL.out.2.2.1; omega)
                exact h
              have cB : ∀ k, (convert 22 9 (.slice (some ⟨b4, o4, none⟩) p q4)).run Tryd.prog (w8.drewN k) = .ok (.string (toS (lu.take p))) (w8.drewN k) := fun k => by
                have hb4 := H8.out.2.2.bt.new (below_drewN (Below.refl _ w8) k)
                rw [← HL.out.2.2.2] at hb4
                have h := conv_bytes w8.heap.size _ (lu.take p) (w8.drewN k) (Bt.take hb4 p (by have := HL.out.2.2.2; omega)) (by rw [List.length_take]; omega)
                exact h
              have hsb := H8.out.2.2.1
              have hsa := H8.out.2.1.1
              have hiff : (toS (lu.take p)).toList = (toS la).toList ↔ lu.take p = la := by
                rw [toS_list, toS_list]
                exact ⟨fun h => toS_inj (fun x hx => hsb x (List.mem_of_mem_take hx)) hsa (by unfold toS; rw [h]), fun h => by rw [h]⟩
              obtain ⟨sa, hsa'⟩ : ∃ sa, toS la = sa := ⟨_, rfl⟩
              obtain ⟨sb, hsb'⟩ : ∃ sb, toS (lu.take p) = sb := ⟨_, rfl⟩
              rw [hsa'] at cA hiff
              rw [hsb'] at cB hiff
              clear hsa' hsb' hsa hsb
              by_cases htu : t = u
              · have hst : sameT t u = true := (sameT_true t u).2 htu
                rw [hst] at HS
                have he2 : sb.toList = sa.toList := hiff.2 (hbeg.2 htu).2
                clear hiff hbeg htu hst hpp
                go_wp2_with fail
                go_quiet (fail)
                go_wp2_with fail
                refine (HS.out (w8.drewN nq) (below_drewN (Below.refl _ w8) nq)).mono ?_
                rintro e w9 ⟨rfl, h9⟩
                have H9 := Lib.hid (bstep HW.out (bstep (bstep H8.out.1 (below_drewN (Below.refl _ w8) nq)) h9))
                clear h9 HS k0 k1 k2 l0 l1 l2 H8
                have HWk := Lib.hid (works_any6 w9 (HH.out.1.keep H9.out))
                go_wp2_with fail
                refine HWk.out.mono ?_
                rintro e wz ⟨rfl, hz⟩
                have HZ := Lib.hid (bstep H9.out hz)
                clear hz HWk
                go_wp2_with fail
                go_ret
                exact ⟨rfl, HZ.out⟩
              · have hst : sameT t u = false := (sameT_false t u).2 htu
                rw [hst] at HS
                have he2 : (sb.toList == sa.toList) = false := by rw [beq_eq_false_iff_ne]; exact fun h => htu (hbeg.1 ⟨hle, hiff.1 h⟩)
                clear hiff hbeg htu hst hpp
                go_wp2_with fail
                go_quiet (fail)
                go_wp2_with fail
                refine (HS.out (w8.drewN nq) (below_drewN (Below.refl _ w8) nq)).mono ?_
                rintro e w9 ⟨rfl, h9⟩
                have H9 := Lib.hid (bstep HW.out (bstep (bstep H8.out.1 (below_drewN (Below.refl _ w8) nq)) h9))
                clear h9 HS k0 k1 k2 l0 l1 l2 H8
                have HWk := Lib.hid (works_any6 w9 (HH.out.1.keep H9.out))
                go_wp2_with fail
                refine HWk.out.mono ?_
                rintro e wz ⟨rfl, hz⟩
                have HZ := Lib.hid (bstep H9.out hz)
                clear hz HWk
                go_wp2_with fail
                go_ret
                exact ⟨rfl, HZ.out⟩
            · have g5 : ¬ (p : Int) ≤ (p2 : Int) := by omega
              have htu : ¬ t = u := fun h => hle (hbeg.2 h).1
              have hst : sameT t u = false := (sameT_false t u).2 htu
              rw [hst] at HS
              clear hbeg htu hst hpp
              go_wp2_with fail
              go_quiet (fail)
              go_wp2_with fail
              refine (HS.out (w8.drewN nq) (below_drewN (Below.refl _ w8) nq)).mono ?_
              rintro e w9 ⟨rfl, h9⟩
              have H9 := Lib.hid (bstep HW.out (bstep (bstep H8.out.1 (below_drewN (Below.refl _ w8) nq)) h9))
              clear h9 HS k0 k1 k2 l0 l1 l2 H8
              have HWk := Lib.hid (works_any6 w9 (HH.out.1.keep H9.out))
              go_wp2_with fail
              refine HWk.out.mono ?_
              rintro e wz ⟨rfl, hz⟩
              have HZ := Lib.hid (bstep H9.out hz)
              clear hz HWk
              go_wp2_with fail
              go_ret
              exact ⟨rfl, HZ.out⟩
      · have g2 : (100 : Int) < (q : Int) := by omega
        have HWk := Lib.hid (works_any6 w2 (HH.out.1.keep (bstep HW.out H2.out)))
        go_wp2_with fail
        refine HWk.out.mono ?_
        rintro e wz ⟨rfl, hz⟩
        have HZ := Lib.hid (bstep (bstep HW.out H2.out) hz)
        clear hz HWk
        go_wp2_with fail
        go_ret
        exact ⟨rfl, HZ.out⟩
    · have g1 : r2 ≤ 0 := by omega
      clear hr2
      have HWk := Lib.hid (works_any6 w2 (HH.out.1.keep (bstep HW.out H2.out)))
      go_wp2_with fail
      refine HWk.out.mono ?_
      rintro e wz ⟨rfl, hz⟩
      have HZ := Lib.hid (bstep (bstep HW.out H2.out) hz)
      clear hz HWk
      go_wp2_with fail
      go_ret
      exact ⟨rfl, HZ.out⟩
  · have g0 : r ≤ 0 := by omega
    have H1 := Lib.hid h1
    clear hr h1
    have HWk := Lib.hid (works_any6 w1 (HH.out.1.keep (bstep HW.out H1.out)))
    go_wp2_with fail
    refine HWk.out.mono ?_
    rintro e wz ⟨rfl, hz⟩
    have HZ := Lib.hid (bstep (bstep HW.out H1.out) hz)
    clear hz HWk
    go_wp2_with fail
    go_ret
    exact ⟨rfl, HZ.out⟩
set_option maxRecDepth 100000 in
theorem holds_all6 {H : Type} {enc : TypeId × Value → H} {X : World} {base : Nat} {sp : Nat → Bool} {held : Bool} {r r2 : Reach} {b0 b1 : Nat} {v v1 v2 : Value} {d d1 d2 : DataW H} {p p1 p2 : List MemPlace} (hv : Value.okWide Tryd.prog X r b0 25 v) (h : DataW.Trod enc Tryd.prog X base sp held 25 v d p) (hv1 : Value.okWide Tryd.prog X r2 b1 25 v1) (h1 : DataW.Trod enc Tryd.prog X base sp held 25 v1 d1 p1) {r3 : Reach} {b3 : Nat} (hv2 : Value.okWide Tryd.prog X r3 b3 22 v2) (h2 : DataW.Trod enc Tryd.prog X base sp held 22 v2 d2 p2) (hH : HD X) :
    Calls Tryd.prog 7 #[v, v1, v2] X fun e w' => e = .returned (.bool true) ∧ Below X.heap.size X w' := by
  obtain ⟨t, ht⟩ := arg_item hv h
  obtain ⟨u, hu⟩ := arg_item hv1 h1
  obtain ⟨x0, l0, c0, rfl⟩ := okWide_slice (show Tryd.prog.underlying 22 = some (.slice 5) by kernel_rfl) hv2
  obtain ⟨fuel, hf⟩ := h2
  obtain ⟨l, x, c, he, hb, hz⟩ := bytes_open (v := .slice x0 l0 c0) hf
  cases he
  exact holds_walk6 t u v v1 x0 c0 l X ht hu hb hz hH
end Go.Proofs.YtjmfnafbjfceoaaDoor
