/- tag: Clone; Known. -/
import Derived.Test.YtkhdjlahfbmkoaaTgm
namespace Go.Proofs.Ytkhdjlahfbmkoaa
open Go.RowKit Go.Shelf

theorem known_seq (n : Nat) (hn : 2 ≤ n) (A1 A2 B n₀ up : Nat) (hup : up < 2 ^ 64) (v : Value) (l : List (Nat × Nat)) (w : World) :
    SeqV (α := Nat) n Try.prog 59 #[.pointer (some ⟨A1, 0, none⟩), .pointer (some ⟨A2, 0, none⟩)] (fun x => #[.int .i64 x, .int .u8 ((cg l x).1 : Nat)]) n₀ noM (fun _ X => KnB A1 A2 B v up l X)
      (fun pre x => pre = knK l up x ∧ x < l.length ∧ sub (cg l x).2 up = true) (fun xs => xs = knK l up l.length) (fun pre => ∃ k, pre = knK l up (k + 1) ∧ k < l.length ∧ sub (cg l k).2 up = true) w := by
  intro L J Jx W _ hJ _ hBd hY h0
  exact known1_in n hn L A1 A2 B n₀ up hup v l J Jx W hJ hBd hY h0
theorem cvs_one (l : List (Nat × Nat)) : ∀ u ∈ cvs l, u.oneCell' = true := fun u hu => by
  unfold cvs at hu
  obtain ⟨a, _, ha⟩ := List.mem_flatMap.1 hu
  simp at ha
  rcases ha with rfl | rfl <;> rfl
theorem cvs_cells {X : World} {b o : Nat} {l : List (Nat × Nat)} (h : ∀ k a, l[k]? = some a → X.cell? ⟨b, o + k * 2, none⟩ = some (.int .u8 (a.1 : Nat)) ∧ X.cell? ⟨b, o + k * 2 + 1, none⟩ = some (.int .u64 (a.2 : Nat))) :
    ∀ j u, (cvs l)[j]? = some u → X.cell? ⟨b, o + j, none⟩ = some u := by
  intro j u hj
  obtain ⟨k, rfl | rfl⟩ : ∃ k, j = k * 2 ∨ j = k * 2 + 1 := ⟨j / 2, by omega⟩
  · rw [cvs_get0] at hj
    cases hk : l[k]? with
    | none => rw [hk] at hj; cases hj
    | some a => rw [hk] at hj; rw [(h k a hk).1]; exact hj
  · rw [cvs_get1] at hj
    cases hk : l[k]? with
    | none => rw [hk] at hj; cases hj
    | some a => rw [hk] at hj; rw [show o + (k * 2 + 1) = o + k * 2 + 1 by omega, (h k a hk).2]; exact hj
theorem eql_nil (w : World) {t e : TypeId} (a : Option Addr) (n c : Nat) (h : Try.prog.underlying t = some (.slice e)) :
    (binOp .eql t (.slice a n c) (.slice none 0 0)).run Try.prog w = .ok (.bool a.isNone) w := by
  have h1 := run_equal_slice_nil (P := Try.prog) w t e a n c h
  simp only [binOp, Sem.run_bind, h1, Result.andThen_ok, Sem.run_pure]
set_option maxRecDepth 100000 in
set_option maxHeartbeats 2000000 in
theorem tclone_any (B : Nat) (v : Value) (l : List (Nat × Nat)) (hl : l.length ≤ 1000000) (w : World) (hv : Cs B w v l) :
    Calls Try.prog 46 #[v] w fun e w' => ∃ v', e = .returned v' ∧ Cs w'.heap.size w' v' l ∧ Below w.heap.size w w' := by
  obtain ⟨h1, x, c, rfl, h3, h4, h5⟩ := hv
  cases x with
  | none =>
    have hn : l = [] := by
      by_cases h : l = []
      · exact h
      · obtain ⟨b, o, e, _⟩ := h5 h; cases e
    subst hn
    clear h1 h3 h4 h5 hl
    have hnil : ∀ W, (binOp .eql 22 (.slice none ([] : List (Nat × Nat)).length c) (.slice none 0 0)).run Try.prog W = .ok (.bool true) W := fun W => eql_nil W _ _ _ und_sc
    simp only [List.length_nil] at hnil
    go_enter Try.func46, Try.ntmps46
    go_wp2_with fail
    go_ret
    exact ⟨_, rfl, ⟨by simp, none, 0, rfl, by simp, by simp, fun h => (h rfl).elim⟩, Below.refl _ _⟩
  | some ad =>
    obtain ⟨i0, hi, hz0, hz1, hz2⟩ := info_parts' infoCell
    have hW := balloc (Below.refl w.heap.size w) (.cells #[] 53)
    have hown : (w.alloc (.cells #[] 53)).ownsRow w.heap.size 53 2 (.slice (some ⟨w.heap.size, 0, none⟩) 0 0) 0 [] := World.ownsRow_made w #[] 0 (Nat.le_refl _) (by unfold maxLen; omega) (by rfl)
    have hcells : ∀ j u, (cvs l)[j]? = some u → (w.alloc (.cells #[] 53)).cell? (ad.add j) = some u := fun j u hj => by
      have hne : l ≠ [] := fun e => by rw [e] at hj; cases hj
      obtain ⟨b, o, e, _, hbX, hc⟩ := h5 hne
      have e2 := Option.some.inj e
      subst e2
      rw [Go.WideShapes.add_plain, hW.cell (p := ⟨b, o + j, none⟩) hbX]
      exact cvs_cells hc j u hj
    have HC := Lib.hid (And.intro hcells (And.intro h1 (And.intro h4 hW)))
    have hsz : w.heap.size ≤ (w.alloc (.cells #[] 53)).heap.size := by simp
    have HSZ := Lib.hid hsz
    have hu := und_sc
    obtain ⟨m, hm⟩ : ∃ m, l.length = m := ⟨_, rfl⟩
    have HM := Lib.hid hm
    rw [hm] at hl h3 ⊢
    clear hcells h1 h4 h5 hm hW hsz
    have hnil : ∀ W, (binOp .eql 22 (.slice (some ad) m c) (.slice none 0 0)).run Try.prog W = .ok (.bool false) W := fun W => eql_nil W _ _ _ und_sc
    go_enter Try.func46, Try.ntmps46
    go_wp2_with (first
      | (at_builtin; refine wpList_append_own _ rfl _ _ 22 rfl w.heap.size 53 i0 (.agg #[.int .u8 0, .int .u64 0]) 2 16 hu hi hz0 hz1 hz2 rfl (by decide) _ 0 [] rfl hown ad m c (cvs l) rfl (by rw [cvs_len, HM.out]) HC.out.1 (cvs_one l) ?c3 ?c4 HSZ.out ?_)
      | fail)
    case c3 => unfold maxLen; omega
    case c4 => omega
    intro v' w2 hown3 hgrow _
    have hB3 := HC.out.2.2.2.grown hgrow (by simp) (fun r e => by cases e; exact Nat.le_refl _)
    have HO := Lib.hid (And.intro hown3 hB3)
    clear hown hown3 hgrow hB3 hi hz0 hz1 hz2 hu
    go_wp2_with fail
    go_ret
    refine ⟨_, rfl, OwT.cs (base := w.heap.size) ⟨HC.out.2.1, ?_⟩, HO.out.2⟩
    have h := HO.out.1
    rw [HM.out]
    exact h
set_option maxRecDepth 100000 in
set_option maxHeartbeats 2000000 in
theorem known_any (B up : Nat) (v : Value) (l : List (Nat × Nat)) (hl : l.length ≤ 1000000) (w : World) (hv : Cs B w v l) :
    Calls Try.prog 24 #[v, .int .u64 (up : Nat)] w fun e w' => ∃ A v', e = .returned (.func (.func 59) #[] #[.pointer (some ⟨A, 0, none⟩), .pointer (some ⟨A + 1, 0, none⟩)]) ∧ w.heap.size ≤ A ∧ KnB A (A + 1) w'.heap.size v' up l w' ∧ Below w.heap.size w w' := by
  have HC := Lib.hid (tclone_any B v l hl w hv)
  obtain ⟨x, c, rfl⟩ := hv.is
  clear hv
  go_enter Try.func24, Try.ntmps24
  go_wp2_with (first
    | (go_at_call 46; refine (HC.out).mono ?_; rintro e w1 ⟨v1, rfl, hv1, hw1⟩; obtain ⟨x1, c1, rfl⟩ := hv1.is; have H1 := Lib.hid (And.intro hv1 hw1); clear hv1 hw1)
    | (go_at_call 47; refine (tknown_any _ _ _ _ _).mono ?_; rintro e w2 ⟨rfl, rfl⟩)
    | fail)
  go_ret
  have hb1 : Below w1.heap.size w1 ((w1.alloc (.cells #[.slice x1 l.length c1] 71)).alloc (.cells #[.int .u64 (up : Nat)] 27)) := balloc (balloc (Below.refl _ _) _) _
  exact ⟨w1.heap.size, _, rfl, H1.out.2.size, ⟨⟨(Blk.new w1 _ _).alloc _, Blk.newS w1 _ _ _⟩, (H1.out.1.new hb1).mono hb1.size⟩, bstep H1.out.2 hb1⟩
end Go.Proofs.Ytkhdjlahfbmkoaa
