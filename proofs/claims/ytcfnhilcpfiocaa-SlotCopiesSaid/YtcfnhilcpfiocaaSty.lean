/- slot: All. -/
import Derived.Test.YtcfnhilcpfiocaaQa
import Derived.Test.YtcfnhilcpfiocaaSts
namespace Go.Proofs.Ytcfnhilcpfiocaa
open Go.RowKit Go.Shelf Go.ChangeMaps Go.MapKept

/-- What All's iterator reads: the keys' slice in box gk, the map in box gm. -/
def AlB (X : World) (base gk gm : Nat) (m : Nat → Option (Nat × Nat)) (l : List Nat) : Prop := (∃ v b, Blk X gk 68 #[v] ∧ OwW X base v l ∧ Blk X gm 42 #[.map (some b)] ∧ Mp X b m ∧ b ≠ gk ∧ b ≠ gm) ∧ Rise m l
theorem ownsRow_chg {M : Nat → Prop} {X Y : World} {base size n : Nat} {e : TypeId} {v : Value} {xs : List Value} (h : X.ownsRow base e size v n xs) (hc : Chg M X Y) (hM : ∀ k, M k → k < base) : Y.ownsRow base e size v n xs := by
  refine ⟨h.1, ?_⟩
  rcases h.2 with h0 | ⟨g, cap, cur, rfl, p1, p2, p3⟩
  · exact .inl h0
  · exact .inr ⟨g, cap, cur, rfl, p1, (hc.block g (Array.getElem?_eq_some_iff.1 p2).1 (fun e => by have := hM g e; omega)).trans p2, p3⟩
set_option maxRecDepth 100000 in
theorem sall_far (g bv bw many : Nat) (fv fw : Nat → Option (Nat × Nat)) (w : World) (h : SlB w g bv bw fv fw many) (hmany : ∀ xs : List Nat, xs.Nodup → (∀ x ∈ xs, x < MM ∧ ovr fv fw x ≠ none) → xs.length ≤ 1000000) :
    Calls Try.prog 14 #[.pointer (some ⟨g, 0, none⟩)] w fun e w' => ∃ gk gm l, e = .returned (.func (.func 32) #[] #[.pointer (some ⟨gk, 0, none⟩), .pointer (some ⟨gm, 0, none⟩)]) ∧ AlB w' w.heap.size gk gm (ovr fv fw) l ∧ w.heap.size ≤ gk ∧ w.heap.size ≤ gm ∧ Below w.heap.size w w' ∧ ∀ Y, Chg (fun k => k < w.heap.size ∧ k ≠ bw) w' Y → AlB Y w.heap.size gk gm (ovr fv fw) l := by
  have hmf : ∀ (fn : Fn) (first cap : Array Value) (w : World), (Instr.makeFunc fn first cap).run Try.prog w = .ok (.func fn first cap) w := fun _ _ _ _ => rfl
  obtain ⟨W1, hW⟩ : ∃ W1, w.alloc (.cells #[.map none] 42) = W1 := ⟨_, rfl⟩
  have hal : Below w.heap.size w W1 := by rw [← hW]; exact balloc (Below.refl w.heap.size w) _
  have hN : Blk W1 w.heap.size 42 #[.map none] := by rw [← hW]; exact Blk.new _ _ _
  have h1 := h.keep hal
  have hNone := Lib.hid (none_not g bv _ _ W1 h1.1)
  have HO := Lib.hid (fun X (hX : Below W1.heap.size W1 X) => over_any bv bw fv fw X (h1.2.1.keep hX) (h1.2.2.1.keep hX))
  have c0 : W1.drew.cell? ⟨g, 0, none⟩ = some (.map (some bv)) := cell_of_row _ _ 0 _ _ _ (Blk.drew' h1.1)
  have c1 : W1.drew.cell? ⟨g, 1, none⟩ = some (.map (some bw)) := cell_of_row _ _ 1 _ _ _ (Blk.drew' h1.1)
  have hbd : Below W1.heap.size W1 W1.drew := below_drew' (Below.refl _ _)
  have HD := Lib.hid hbd
  have H := Lib.hid (And.intro hN (And.intro hal (And.intro h1 hmany)))
  have HW := Lib.hid hW
  clear h hbd hal hN h1 hmany hW
  go_enter Try.func14, Try.ntmps14
  go_upto_region 2 with fail
  rw [HW.out]
  go_upto_region 3 with (first | (go_at_call 26; refine (hNone.out).mono ?_; rintro e w1 ⟨rfl, rfl⟩) | fail)
  go_region_law (first | (go_simp; go_at_call 29; refine (HO.out _ HD.out).mono ?_; rintro e z ⟨b, rfl, hm, hb, hz⟩; have hB := HD.out.trans (hz.mono HD.out.size); have fz := frozen_of_row _ _ 0 _ _ (H.out.1.keep hB); have cz := cell_of_row _ _ 0 _ _ _ (H.out.1.keep hB); have HZ := Lib.hid (And.intro hm (And.intro hb hB)); clear hm hb hz hB))
  all_goals
    obtain ⟨Z1, hZ1⟩ : ∃ Z1, z.setCell ⟨w.heap.size, 0, none⟩ (Value.map (some b)) = Z1 := ⟨_, rfl⟩
    rw [hZ1]
    have hne := blk_ne_map (H.out.1.keep HZ.out.2.2) HZ.out.1
    have hbz : Blk Z1 w.heap.size 42 #[.map (some b)] := by rw [← hZ1]; exact heap_setCell_same z _ 0 _ _ _ (H.out.1.keep HZ.out.2.2)
    have hcz : Chg (fun k => k = w.heap.size) z Z1 := by rw [← hZ1]; exact (Chg.refl _ _).set _ 0 _ (fun _ => rfl)
    have hmz : Mp Z1 b (ovr fv fw) := HZ.out.1.chg hcz (fun e => hne e.symm)
    have hBz : Below w.heap.size w Z1 := by
      have q1 := bstep H.out.2.1 HZ.out.2.2
      rw [← hZ1]
      exact q1.grown (grown_set' (grown_refl z w.heap.size) 0 _) q1.size (fun r e => by cases e; exact Nat.le_refl _)
    have HS := Lib.hid (sorted_any b (ovr fv fw) Z1 hmz H.out.2.2.2)
    have cz1 := cell_of_row _ _ 0 _ _ _ hbz
    have HF := Lib.hid (And.intro hbz (And.intro hmz (And.intro hBz hne)))
    clear hZ1 hne hbz hcz hmz hBz fz cz c0 c1
    go_wp2_with (first | (go_at_call 30; refine (HS.out).mono ?_; rintro e Y ⟨v, l, rfl, h⟩; have H2 := Lib.hid h; clear h; obtain ⟨xl, cl, rfl⟩ := H2.out.1.is) | fail)
    go_ret
    have hY := H2.out.2.2
    have hYa := balloc (Below.refl Y.heap.size Y) (.cells #[.slice xl l.length cl] 68)
    have hl1 := HF.out.2.1.lt
    have hl2 := hY.size
    have hl3 := HF.out.2.2.1.size
    have hAl : AlB (Y.alloc (.cells #[.slice xl l.length cl] 68)) w.heap.size Y.heap.size w.heap.size (ovr fv fw) l := ⟨⟨_, b, Blk.new _ _ _, OwW.kept (show OwW Y w.heap.size _ l from World.ownsRow.mono H2.out.1 hl3) (grown_new hYa) (fun r e => by cases e), (HF.out.1.keep hY).keep hYa, (HF.out.2.1.keep hY).keep hYa, by omega, fun e => HF.out.2.2.2 e.symm⟩, H2.out.2.1⟩
    have hbB : b = bw ∨ w.heap.size ≤ b := by have := HZ.out.2.1; have := H.out.2.1.size; have := HD.out.size; omega
    refine ⟨_, _, l, rfl, hAl, by omega, Nat.le_refl _, bstep (bstep HF.out.2.2.1 hY) hYa, fun Y9 hc => ?_⟩
    obtain ⟨⟨v, b2, a1, a2, a3, a4, a5⟩, a6⟩ := hAl
    have e3 : Blk (Y.alloc (.cells #[.slice xl l.length cl] 68)) w.heap.size 42 #[.map (some b)] := (HF.out.1.keep hY).keep hYa
    have e4 : b2 = b := by
      unfold Blk at a3 e3
      rw [e3] at a3
      injection a3 with a3
      injection a3 with a3
      have := congrArg (fun x : Array Value => x.toList) a3
      simp at this
      exact this.symm
    subst e4
    exact ⟨⟨v, b2, a1.chg hc (fun h => absurd h.1 (by omega)), ownsRow_chg a2 hc (fun k h => h.1), a3.chg hc (fun h => absurd h.1 (Nat.lt_irrefl _)), a4.chg hc (fun h => hbB.elim h.2 (fun q => absurd h.1 (by omega))), a5⟩, a6⟩
theorem sall_any (g bv bw many : Nat) (fv fw : Nat → Option (Nat × Nat)) (w : World) (h : SlB w g bv bw fv fw many) (hmany : ∀ xs : List Nat, xs.Nodup → (∀ x ∈ xs, x < MM ∧ ovr fv fw x ≠ none) → xs.length ≤ 1000000) :
    Calls Try.prog 14 #[.pointer (some ⟨g, 0, none⟩)] w fun e w' => ∃ gk gm l, e = .returned (.func (.func 32) #[] #[.pointer (some ⟨gk, 0, none⟩), .pointer (some ⟨gm, 0, none⟩)]) ∧ AlB w' w.heap.size gk gm (ovr fv fw) l ∧ w.heap.size ≤ gk ∧ w.heap.size ≤ gm ∧ Below w.heap.size w w' :=
  (sall_far g bv bw many fv fw w h hmany).mono fun _ _ h => by
    obtain ⟨gk, gm, l, h1, h2, h3, h4, h5, _⟩ := h
    exact ⟨gk, gm, l, h1, h2, h3, h4, h5⟩

end Go.Proofs.Ytcfnhilcpfiocaa
