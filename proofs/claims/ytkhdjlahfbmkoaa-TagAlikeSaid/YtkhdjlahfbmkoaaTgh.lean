/- tag: the reference: Of, Bytes, Label, Part. -/
import Derived.Test.YtkhdjlahfbmkoaaTgf
namespace Go.Proofs.Ytkhdjlahfbmkoaa
open Go.RowKit Go.Shelf

/-- A row of cells that the call owns. -/
def OwT (X : World) (base : Nat) (v : Value) (l : List (Nat × Nat)) : Prop := (∀ a ∈ l, okC a) ∧ X.ownsRow base 53 2 v l.length (cvs l)
theorem OwT.cs {X : World} {base : Nat} {v : Value} {l : List (Nat × Nat)} (h : OwT X base v l) : Cs X.heap.size X v l := by
  obtain ⟨hs, h⟩ := h
  have h0 := h
  refine ⟨hs, ?_⟩
  rcases h.2 with ⟨hv, hn⟩ | ⟨g, cap, cur, hv, hb, hg, hn, hc, _, _⟩
  · have hl : l = [] := List.eq_nil_of_length_eq_zero hn
    subst hl
    exact ⟨none, 0, hv, Nat.le_refl _, by simp, fun h => (h rfl).elim⟩
  · have hlt := (Array.getElem?_eq_some_iff.1 hg).1
    refine ⟨some ⟨g, 0, none⟩, cap, hv, hn, by unfold maxLen at hc; omega, fun _ => ⟨g, 0, rfl, hlt, hlt, fun k u hu => ?_⟩⟩
    have h1 := h0.cells (g := g) (by rw [hv]; rfl) (k * 2) (.int .u8 (u.1 : Nat)) (by rw [cvs_get0, hu]; rfl)
    have h2 := h0.cells (g := g) (by rw [hv]; rfl) (k * 2 + 1) (.int .u64 (u.2 : Nat)) (by rw [cvs_get1, hu]; rfl)
    rw [Go.WideShapes.add_plain] at h1 h2
    exact ⟨h1, h2⟩
theorem OwT.nil (X : World) (base : Nat) : OwT X base (.slice none 0 0) [] := ⟨by simp, World.ownsRow_nil _ _ _ _⟩
theorem OwT.is {X : World} {base : Nat} {v : Value} {l : List (Nat × Nat)} (h : OwT X base v l) : ∃ x c, v = .slice x l.length c := by
  obtain ⟨x, c, h1, _⟩ := owns_slice h.2
  exact ⟨x, c, h1⟩
theorem OwT.new {X Y : World} {base : Nat} {v : Value} {l : List (Nat × Nat)} (h : OwT X base v l) (k : Below X.heap.size X Y) : OwT Y base v l := ⟨h.1, owns_below h.2 k⟩
theorem und_sc : Try.prog.underlying 22 = some (.slice 53) := by kernel_rfl
theorem und_sb : Try.prog.underlying 23 = some (.slice 5) := by kernel_rfl
theorem take_len {α : Type} (l : List α) (k : Nat) (h : k ≤ l.length) : (l.take k).length = k := by rw [List.length_take]; omega
theorem take_more {α : Type} (l : List α) (k : Nat) (a : α) (h : l[k]? = some a) : l.take (k + 1) = l.take k ++ [a] := by rw [List.take_add_one, h]; rfl

set_option maxRecDepth 100000 in
set_option maxHeartbeats 2000000 in
theorem rtof_any (B a : Nat) (ha : a < 2 ^ 64) (v : Value) (l : List Nat) (hl : l.length ≤ 1000000) (w : World) (hv : Bto B w v l) :
    Calls Try.prog 10 #[v, .int .u64 (a : Nat)] w fun e w' => ∃ v', e = .returned v' ∧ OwT w' w.heap.size v' (l.map fun x => (x, a)) ∧ Below w.heap.size w w' := by
  obtain ⟨i0, hi, hz0, hz1, hz2⟩ := info_parts' infoCell
  obtain ⟨h1, x, c, rfl, h3, h4, h5⟩ := hv
  have HX := Lib.hid (And.intro h1 h5)
  have HA := Lib.hid ha
  have HL := Lib.hid hl
  clear h1 h3 h4 h5 ha hl
  have hu := und_sc
  go_enter Try.func10, Try.ntmps10
  go_wp2_with fail
  go_loopw [5, 6] (fun v i wr => ∃ k : Nat, k ≤ l.length ∧ i = .int .i64 k ∧ OwT wr w.heap.size v ((l.map fun x => (x, a)).take k) ∧ Below w.heap.size w wr) (fun _ i _ => l.length - (intOf i).toNat)
  case atStart => exact ⟨0, by omega, rfl, by rw [List.take_zero]; exact OwT.nil _ _, Below.refl _ _⟩
  case round =>
    obtain ⟨k, hk, rfl, hown, hB⟩ := hrel
    have hmk : ((l.map fun x => (x, a)).take k).length = k := take_len _ _ (by rw [List.length_map]; exact hk)
    by_cases hlt : k < l.length
    · have hltI : (k : Int) < (l.length : Int) := by omega
      obtain ⟨y, hy⟩ : ∃ y, l[k]? = some y := ⟨_, List.getElem?_eq_getElem hlt⟩
      obtain ⟨b, o, rfl, hb, hbX, hc⟩ := HX.out.2 (by intro e; rw [e] at hlt; simp at hlt)
      have cy := (hB.cell (p := ⟨b, o + k, none⟩) hbX).trans (hc k y hy)
      have hyl := HX.out.1 y (List.mem_of_getElem? hy)
      have hmore := take_more (l.map fun x => (x, a)) k (y, a) (by rw [List.getElem?_map, hy]; rfl)
      have hown1 := hown.1
      have hown2 := hown.2
      rw [hmk] at hown2
      have HM := Lib.hid (And.intro hmore (And.intro hown1 (And.intro hyl (And.intro hB hmk))))
      have hgr := hB.size
      have HG := Lib.hid hgr
      have hL := HL.out
      clear hmore hown1 hown hyl hB hc hb hbX hmk hgr hy
      generalize (l.map fun x => (x, a)).take k = L at *
      go_wp2_with (first
        | (at_builtin; refine wpList_append_own _ rfl _ _ 22 rfl w.heap.size 53 i0 (.agg #[.int .u8 0, .int .u64 0]) 2 16 hu hi hz0 hz1 hz2 rfl (by decide) _ k (cvs L) rfl (hown2.alloc _) ⟨wr.heap.size, 0, none⟩ 1 1 [.int .u8 (y : Nat), .int .u64 (a : Nat)] rfl rfl ?c1 ?c2 ?c3 ?c4 ?c5 ?_)
        | fail)
      case c1 =>
        intro j v hj
        have hN := Blk.new wr 53 #[.int .u8 (y : Nat), .int .u64 (a : Nat)]
        rcases j with _ | _ | j
        · simp at hj; subst hj; exact cell_of_row _ _ 0 _ _ _ hN
        · simp at hj; subst hj; exact cell_of_row _ _ 1 _ _ _ hN
        · simp at hj
      case c2 => exact fun u hu => by simp at hu; rcases hu with rfl | rfl <;> rfl
      case c3 => unfold maxLen; omega
      case c4 => omega
      case c5 => have := HG.out; simp; omega
      intro v' w2 hown3 hgrow _
      have hW1 := world_kept (hown2.alloc _) hgrow (balloc HM.out.2.2.2.1 _) (Nat.le_refl _) (Nat.le_refl _)
      have HO := Lib.hid hown3
      have HY := Lib.hid hW1
      clear hown2 hown3 hgrow hW1 hi hz0 hz1 hz2 hu
      go_wp2_with fail
      go_roundw
      case rel =>
        refine ⟨k + 1, by omega, by go_num, ⟨?_, ?_⟩, HY.out⟩
        · rw [HM.out.1]
          intro c hc
          rcases List.mem_append.1 hc with h | h
          · exact HM.out.2.1 c h
          · simp at h; subst h; exact ⟨HM.out.2.2.1, HA.out⟩
        · have h := HO.out
          rw [HM.out.1, List.length_append, HM.out.2.2.2.2, ← cvs_app]
          exact h
      case measure => simp [intOf]; omega
    · obtain rfl : k = l.length := by omega
      have HO := Lib.hid (And.intro hown hB)
      clear hown hB hmk
      go_wp2_with fail
      go_ret
      refine ⟨_, rfl, ?_, HO.out.2⟩
      have h := HO.out.1
      rwa [List.take_of_length_le (by rw [List.length_map]; omega)] at h

set_option maxRecDepth 100000 in
set_option maxHeartbeats 2000000 in
theorem rtbytes_any (B : Nat) (v : Value) (l : List (Nat × Nat)) (hl : l.length ≤ 1000000) (w : World) (hv : Cs B w v l) :
    Calls Try.prog 12 #[v] w fun e w' => ∃ v', e = .returned v' ∧ Ow w' w.heap.size v' (l.map (·.1)) ∧ Below w.heap.size w w' := by
  obtain ⟨i0, hi, hz0, hz1, hz2⟩ := info_parts' infoU8
  have HV := Lib.hid hv
  obtain ⟨x, c, rfl⟩ := hv.is
  have HL := Lib.hid hl
  clear hv hl
  have hu := und_sb
  go_enter Try.func12, Try.ntmps12
  go_wp2_with fail
  go_loopw [3, 4] (fun v i wr => ∃ k : Nat, k ≤ l.length ∧ i = .int .i64 k ∧ Ow wr w.heap.size v ((l.map (·.1)).take k) ∧ Below w.heap.size w wr) (fun _ i _ => l.length - (intOf i).toNat)
  case atStart => exact ⟨0, by omega, rfl, by rw [List.take_zero]; exact Ow.nil _ _, Below.refl _ _⟩
  case round =>
    obtain ⟨k, hk, rfl, hown, hB⟩ := hrel
    have hmk : ((l.map (·.1)).take k).length = k := take_len _ _ (by rw [List.length_map]; exact hk)
    by_cases hlt : k < l.length
    · have hltI : (k : Int) < (l.length : Int) := by omega
      obtain ⟨b, o, c', e, hbX, c0, c1⟩ := Cs.at HV.out hlt
      injection e with e1 e2 e3
      subst e1 e3
      have cy := (hB.cell (p := ⟨b, o + k * 2, none⟩) hbX).trans c0
      have hyl := (cg_ok HV.out.1 k).1
      have hmore := take_more (l.map (·.1)) k (cg l k).1 (by rw [List.getElem?_map, cg_lt hlt]; rfl)
      have hown1 := hown.1
      have hown2 := hown.2
      rw [hmk] at hown2
      have HM := Lib.hid (And.intro hmore (And.intro hown1 (And.intro hyl (And.intro hB hmk))))
      have HG := Lib.hid hB.size
      have hL := HL.out
      clear hmore hown1 hown hyl hB hbX hmk c0 c1 e2
      generalize (l.map (·.1)).take k = L at *
      generalize (cg l k).1 = y at *
      go_wp2_with (first
        | (at_builtin; refine wpList_append_own _ rfl _ _ 23 rfl w.heap.size 5 i0 (.int .u8 0) 1 1 hu hi hz0 hz1 hz2 rfl (by decide) _ k (bvs L) rfl (hown2.alloc _) ⟨wr.heap.size, 0, none⟩ 1 1 [.int .u8 (y : Nat)] rfl rfl ?c1 ?c2 ?c3 ?c4 ?c5 ?_)
        | fail)
      case c1 =>
        intro j v hj
        have hN := Blk.new wr 5 #[.int .u8 (y : Nat)]
        rcases j with _ | j
        · simp at hj; subst hj; exact cell_of_row _ _ 0 _ _ _ hN
        · simp at hj
      case c2 => exact fun u hu => by simp at hu; subst hu; rfl
      case c3 => unfold maxLen; omega
      case c4 => omega
      case c5 => have := HG.out; simp; omega
      intro v' w2 hown3 hgrow _
      have hW1 := world_kept (hown2.alloc _) hgrow (balloc HM.out.2.2.2.1 _) (Nat.le_refl _) (Nat.le_refl _)
      have HO := Lib.hid hown3
      have HY := Lib.hid hW1
      clear hown2 hown3 hgrow hW1 hi hz0 hz1 hz2 hu
      go_wp2_with fail
      go_roundw
      case rel =>
        refine ⟨k + 1, by omega, by go_num, ⟨?_, ?_⟩, HY.out⟩
        · rw [HM.out.1]
          intro c hc
          rcases List.mem_append.1 hc with h | h
          · exact HM.out.2.1 c h
          · simp at h; subst h; exact HM.out.2.2.1
        · have h := HO.out
          rw [HM.out.1, List.length_append, HM.out.2.2.2.2, ← bvs_app]
          exact h
      case measure => simp [intOf]; omega
    · obtain rfl : k = l.length := by omega
      have HO := Lib.hid (And.intro hown hB)
      clear hown hB hmk
      go_wp2_with fail
      go_ret
      refine ⟨_, rfl, ?_, HO.out.2⟩
      have h := HO.out.1
      rwa [List.take_of_length_le (by rw [List.length_map]; omega)] at h
theorem jl_take (l : List (Nat × Nat)) (k : Nat) (h : k < l.length) : jl (l.take (k + 1)) = jl (l.take k) ||| (cg l k).2 := by
  unfold jl joinL
  rw [take_more l k _ (cg_lt h), List.map_append, List.foldl_append]; rfl
theorem jl_lt {l : List (Nat × Nat)} (h : ∀ a ∈ l, okC a) : jl l < 2 ^ 64 := joinL_lt _ (fun a ha => by obtain ⟨b, hb, rfl⟩ := List.mem_map.1 ha; exact (h b hb).2)
set_option maxRecDepth 100000 in
set_option maxHeartbeats 2000000 in
theorem rtlabel_any (B : Nat) (v : Value) (l : List (Nat × Nat)) (hl : l.length ≤ 1000000) (w : World) (hv : Cs B w v l) :
    Calls Try.prog 14 #[v] w fun e w' => e = .returned (.int .u64 (jl l : Nat)) ∧ w = w' := by
  have HV := Lib.hid hv
  obtain ⟨x, c, rfl⟩ := hv.is
  have HL := Lib.hid hl
  clear hv hl
  go_enter Try.func14, Try.ntmps14
  go_wp2_with fail
  go_loop [3, 4] (fun v i => ∃ k : Nat, k ≤ l.length ∧ i = .int .i64 k ∧ v = .int .u64 (jl (l.take k) : Nat)) (fun _ i => l.length - (intOf i).toNat)
  case atStart => exact ⟨0, by omega, rfl, by rw [List.take_zero]; rfl⟩
  case round =>
    obtain ⟨k, hk, rfl, rfl⟩ := hrel
    by_cases hlt : k < l.length
    · have hltI : (k : Int) < (l.length : Int) := by omega
      obtain ⟨b, o, c', e, hbX, c0, c1⟩ := Cs.at HV.out hlt
      injection e with e1 e2 e3
      subst e1 e3
      have hyl := (cg_ok HV.out.1 k).2
      have HT := Lib.hid (jl_take l k hlt)
      have hjl : jl (l.take k) < 2 ^ 64 := jl_lt (fun a ha => HV.out.1 a (List.mem_of_mem_take ha))
      have hL := HL.out
      clear hbX c0 e2
      generalize (cg l k).2 = y at *
      generalize jl (l.take k) = u at *
      have HJ := Lib.hid (rjoin_any u y hjl hyl w)
      clear hyl hjl
      go_wp2_with (first | (go_at_call 39; refine (HJ.out).mono ?_; rintro e w' ⟨rfl, rfl⟩) | fail)
      go_round
      case rel => exact ⟨k + 1, by omega, by go_num, by rw [HT.out]⟩
      case measure => simp [intOf]; omega
    · obtain rfl : k = l.length := by omega
      rw [List.take_length]
      go_wp2
      go_ret
      exact ⟨rfl, rfl⟩
end Go.Proofs.Ytkhdjlahfbmkoaa
