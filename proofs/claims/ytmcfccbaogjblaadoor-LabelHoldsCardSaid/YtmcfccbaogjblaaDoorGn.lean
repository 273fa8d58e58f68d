/- label's law: LabelJoins: the walk. -/
import Derived.Test.YtmcfccbaogjblaaDoorGk
namespace Go.Proofs.YtmcfccbaogjblaaDoor
open Go.RowKit Go.Shelf

theorem below_drewN' {B : Nat} {a w : World} (h : Below B a w) (n : Nat) : Below B a (w.drewN n) := h.trans ⟨rfl, rfl, rfl, Nat.le_refl _, fun _ _ => rfl⟩
theorem take_snoc {α : Type} {l : List α} {k : Nat} {a : α} (h : l[k]? = some a) : l.take (k + 1) = l.take k ++ [a] := by rw [List.take_add_one, h]; rfl

set_option maxRecDepth 100000 in
set_option maxHeartbeats 4000000 in
theorem joins_walk (l : List Nat) (v : Value) (a b : Nat) (ha : a < 2 ^ 64) (hb : b < 2 ^ 64) (w : World) (hl : LsA w v l) (hT : TZ w) :
    Calls Tryd.prog 3 #[v, .int .u64 (a : Nat), .int .u64 (b : Nat)] w fun e w' => e = .returned (.bool true) ∧ Below w.heap.size w w' := by
  have HT := Lib.hid hT
  have HL := Lib.hid hl
  clear hT
  by_cases h20 : l.length ≤ 20
  · have hnI : ¬ (20 : Int) < (l.length : Int) := by omega
    obtain ⟨x, cp, rfl, ⟨-, hm⟩, -⟩ := hl
    have HAB := Lib.hid (And.intro ha (And.intro hb hm))
    clear ha hb hm
    go_enter Tryd.func3, Tryd.ntmps3
    go_wp2_with fail
    go_loopw [7, 8, 9, 10] (fun jv mv bt i wr => ∃ k : Nat, k ≤ l.length ∧ i = .int .i64 k ∧ jv = .int .u64 (joinL (l.take k) : Nat) ∧ mv = .int .u64 (meetL (l.take k) : Nat) ∧ bt = .bool (btw a b (l.take k)) ∧ LsA wr (.slice x l.length cp) l ∧ Below w.heap.size w wr) (fun _ _ _ i _ => l.length - (intOf i).toNat)
    case atStart => exact ⟨0, by omega, rfl, rfl, rfl, rfl, HL.out, Below.refl _ _⟩
    case round =>
      obtain ⟨k, hk, rfl, rfl, rfl, rfl, hl, hB⟩ := hrel
      by_cases hlt : k < l.length
      · obtain ⟨xa, hxa⟩ : ∃ a, l[k]? = some a := ⟨_, List.getElem?_eq_getElem hlt⟩
        have HF := Lib.hid (show joinL (l.take (k + 1)) = joinL (l.take k) ||| xa ∧ meetL (l.take (k + 1)) = meetL (l.take k) &&& xa ∧ btw a b (l.take (k + 1)) = (btw a b (l.take k) && (sub a xa && sub xa b)) by rw [take_snoc hxa]; exact ⟨joinL_snoc _ _, meetL_snoc _ _, btw_snoc _ _ _ _⟩)
        have hjx : joinL (l.take k) < 2 ^ 64 := joinL_lt _ (fun y hy => HAB.out.2.2 y (List.mem_of_mem_take hy))
        have hmx : meetL (l.take k) < 2 ^ 64 := meetL_lt _
        have HX := Lib.hid (And.intro hl hB)
        obtain ⟨x', c', e', -, h3⟩ := hl
        cases e'
        obtain ⟨g, o, rfl, hg, hc⟩ := h3 (fun h => by rw [h] at hlt; simp at hlt)
        have hck := hc k xa hxa
        replace hxa : xa < 2 ^ 64 := HAB.out.2.2 xa (List.mem_of_getElem? hxa)
        clear hc hg h3 hB
        generalize joinL (l.take k) = jx at *
        generalize meetL (l.take k) = mx at *
        obtain ⟨bt, hbt⟩ : ∃ bt, btw a b (l.take k) = bt := ⟨_, rfl⟩
        rw [hbt] at HF ⊢
        clear hbt
        have HB1 := Lib.hid (rbelow_any a xa HAB.out.1 hxa)
        have HB2 := Lib.hid (rbelow_any xa b hxa HAB.out.2.1)
        obtain ⟨s1, hs1⟩ : ∃ s1, sub a xa = s1 := ⟨_, rfl⟩
        obtain ⟨s2, hs2⟩ : ∃ s2, sub xa b = s2 := ⟨_, rfl⟩
        rw [hs1] at HB1
        rw [hs2] at HB2
        rw [hs1, hs2] at HF
        clear hs1 hs2
        cases bt with
        | false =>
          clear HB1 HB2
          go_wp2_with fail
          go_quiet ((first | (go_at_call 8; exact Calls.quiet_of_same ((rjoin_any jx xa hjx hxa _).mono fun _ _ ⟨h, k⟩ => ⟨h, k.symm⟩)) | (go_at_call 9; exact Calls.quiet_of_same ((rmeet_any mx xa hmx hxa _).mono fun _ _ ⟨h, k⟩ => ⟨h, k.symm⟩))))
          go_wp2_with (first
            | (go_at_call 10; ((with_reducible refine (HB1.out _).mono ?_)); rintro e w' ⟨rfl, rfl⟩)
            | (go_at_call 10; ((with_reducible refine (HB2.out _).mono ?_)); rintro e w' ⟨rfl, rfl⟩)
            | fail)
          go_roundw
          case rel => exact ⟨k + 1, by omega, by go_num, by rw [HF.out.1], by rw [HF.out.2.1], by rw [HF.out.2.2]; rfl, HX.out.1.keep (below_drewN' (Below.refl _ _) _), below_drewN' HX.out.2 _⟩
          case measure => simp [intOf]; omega
        | true =>
          cases s1 with
          | false =>
            clear HB2
            go_wp2_with fail
            go_quiet ((first | (go_at_call 8; exact Calls.quiet_of_same ((rjoin_any jx xa hjx hxa _).mono fun _ _ ⟨h, k⟩ => ⟨h, k.symm⟩)) | (go_at_call 9; exact Calls.quiet_of_same ((rmeet_any mx xa hmx hxa _).mono fun _ _ ⟨h, k⟩ => ⟨h, k.symm⟩))))
            go_wp2_with (first
              | (go_at_call 10; ((with_reducible refine (HB1.out _).mono ?_)); rintro e w' ⟨rfl, rfl⟩)
              | (go_at_call 10; ((with_reducible refine (HB2.out _).mono ?_)); rintro e w' ⟨rfl, rfl⟩)
              | fail)
            go_roundw
            case rel => exact ⟨k + 1, by omega, by go_num, by rw [HF.out.1], by rw [HF.out.2.1], by rw [HF.out.2.2]; rfl, HX.out.1.keep (below_drewN' (Below.refl _ _) _), below_drewN' HX.out.2 _⟩
            case measure => simp [intOf]; omega
          | true =>
            cases s2
            · skip
              go_wp2_with fail
              go_quiet ((first | (go_at_call 8; exact Calls.quiet_of_same ((rjoin_any jx xa hjx hxa _).mono fun _ _ ⟨h, k⟩ => ⟨h, k.symm⟩)) | (go_at_call 9; exact Calls.quiet_of_same ((rmeet_any mx xa hmx hxa _).mono fun _ _ ⟨h, k⟩ => ⟨h, k.symm⟩))))
              go_wp2_with (first
                | (go_at_call 10; ((with_reducible refine (HB1.out _).mono ?_)); rintro e w' ⟨rfl, rfl⟩)
                | (go_at_call 10; ((with_reducible refine (HB2.out _).mono ?_)); rintro e w' ⟨rfl, rfl⟩)
                | fail)
              go_roundw
              case rel => exact ⟨k + 1, by omega, by go_num, by rw [HF.out.1], by rw [HF.out.2.1], by rw [HF.out.2.2]; rfl, HX.out.1.keep (below_drewN' (Below.refl _ _) _), below_drewN' HX.out.2 _⟩
              case measure => simp [intOf]; omega
            · skip
              go_wp2_with fail
              go_quiet ((first | (go_at_call 8; exact Calls.quiet_of_same ((rjoin_any jx xa hjx hxa _).mono fun _ _ ⟨h, k⟩ => ⟨h, k.symm⟩)) | (go_at_call 9; exact Calls.quiet_of_same ((rmeet_any mx xa hmx hxa _).mono fun _ _ ⟨h, k⟩ => ⟨h, k.symm⟩))))
              go_wp2_with (first
                | (go_at_call 10; ((with_reducible refine (HB1.out _).mono ?_)); rintro e w' ⟨rfl, rfl⟩)
                | (go_at_call 10; ((with_reducible refine (HB2.out _).mono ?_)); rintro e w' ⟨rfl, rfl⟩)
                | fail)
              go_roundw
              case rel => exact ⟨k + 1, by omega, by go_num, by rw [HF.out.1], by rw [HF.out.2.1], by rw [HF.out.2.2]; rfl, HX.out.1.keep (below_drewN' (Below.refl _ _) _), below_drewN' HX.out.2 _⟩
              case measure => simp [intOf]; omega
      · obtain rfl : k = l.length := by omega
        rw [List.take_length]
        have HX := Lib.hid (And.intro hl hB)
        clear hl hB
        have HJ := Lib.hid (join_any l _ _ HX.out.1)
        have HM := Lib.hid (meet_any l _ _ HX.out.1)
        have HBT := Lib.hid (between_any a b l _ wr HAB.out.1 HAB.out.2.1 HX.out.1)
        have HBL := Lib.hid (below_any a b HAB.out.1 HAB.out.2.1)
        have HRB := Lib.hid (rbelow_any a b HAB.out.1 HAB.out.2.1)
        have HBW := Lib.hid (fun (X : World) (hX : Below wr.heap.size wr X) => (between_any a b l _ X HAB.out.1 HAB.out.2.1 (HX.out.1.keep hX)))
        go_wp2_with fail
        refine (HJ.out).mono ?_
        rintro e _ ⟨rfl, rfl⟩
        go_wp2_with fail
        refine (HM.out).mono ?_
        rintro e _ ⟨rfl, rfl⟩
        go_wp2_with fail
        refine (HBL.out _).mono ?_
        rintro e w1 ⟨rfl, h1⟩
        have H1 := Lib.hid h1
        clear h1
        go_wp2_with fail
        refine (HRB.out _).mono ?_
        rintro e _ ⟨rfl, rfl⟩
        go_wp2_with fail
        refine (HBW.out _ H1.out).mono ?_
        rintro e w2 ⟨rfl, h2⟩
        have H2 := Lib.hid (bstep H1.out h2)
        clear h2
        have HTW := Lib.hid (HT.out.keep (bstep HX.out.2 H2.out))
        go_wp2_with fail
        refine (works_any _ HTW.out).mono ?_
        rintro e w3 ⟨rfl, h3⟩
        have H3 := Lib.hid (bstep (bstep HX.out.2 H2.out) h3)
        clear h3
        go_wp2_with fail
        go_ret
        exact ⟨by rfl, H3.out⟩
  · have hnI : (20 : Int) < (l.length : Int) := by omega
    obtain ⟨x, cp, rfl, -, -⟩ := hl
    go_enter Tryd.func3, Tryd.ntmps3
    go_wp2_with (first
      | (go_at_call 7; refine (works_any _ HT.out).mono ?_; rintro e w6 ⟨rfl, h6⟩) | fail)
    go_ret
    exact ⟨rfl, h6⟩
end Go.Proofs.YtmcfccbaogjblaaDoor
