/- slot: New, Len; a map laid over another one. -/
import Derived.Test.YtcplhalgjjhmdaaStg
import Derived.Laws.Externs
namespace Go.Proofs.Ytcplhalgjjhmdaa
open Go.RowKit Go.Shelf Go.ChangeMaps Go.MapKept

set_option maxRecDepth 100000 in
theorem new_any (w : World) : Calls Try.prog 51 #[] w fun e w' => ∃ g bv bw, e = .returned (.pointer (some ⟨g, 0, none⟩)) ∧ SlB w' g bv bw (fun _ => none) (fun _ => none) 0 ∧ w.heap.size ≤ g ∧ w.heap.size ≤ bv ∧ w.heap.size ≤ bw ∧ Below w.heap.size w w' := by
  have hmk : ∀ X : World, (Instr.makeMap 85 none).run Try.prog X = .ok (.map (some X.heap.size)) (X.alloc (.map #[] 0)) := fun X => by simp [Instr.makeMap, go_sem, Result.andThen]
  go_enter Try.func51, Try.ntmps51
  go_wp2_with fail
  go_ret
  have h1 := Mp.made w 0
  have h2 := Mp.made (w.alloc (.map #[] 0)) 0
  rw [World.size_alloc] at h2
  have e2 : (w.alloc (.map #[] 0)).heap.size = w.heap.size + 1 := by simp
  have e3 : ((w.alloc (.map #[] 0)).alloc (.map #[] 0)).heap.size = w.heap.size + 1 + 1 := by simp
  have b1 := balloc (Below.refl (w.alloc (.map #[] 0)).heap.size (w.alloc (.map #[] 0))) (.map #[] 0)
  have b2 := balloc (Below.refl ((w.alloc (.map #[] 0)).alloc (.map #[] 0)).heap.size ((w.alloc (.map #[] 0)).alloc (.map #[] 0))) (.cells #[.map (some w.heap.size), .map (some (w.heap.size + 1)), .int .i64 0] 87)
  have hN := Blk.new ((w.alloc (.map #[] 0)).alloc (.map #[] 0)) 87 #[.map (some w.heap.size), .map (some (w.heap.size + 1)), .int .i64 0]
  rw [e3] at hN
  exact ⟨_, _, _, rfl, ⟨hN, (h1.keep b1).keep b2, h2.keep b2, by omega⟩, by omega, by omega, by omega, balloc (balloc (balloc (Below.refl _ _) _) _) _⟩
set_option maxRecDepth 100000 in
set_option maxHeartbeats 2000000 in
theorem clone_any (b : Nat) (m : Nat → Option (Nat × Nat)) (w : World) (h : Mp w b m) : Calls Try.prog 58 #[.map (some b)] w fun e w' => e = .returned (.map (some w.heap.size)) ∧ Mp w' w.heap.size m ∧ Below w.heap.size w w' := by
  obtain ⟨es, clock, hb, hm⟩ := h.clone
  have hq := eqMapNil (some b)
  have HM := Lib.hid hm
  clear h hm
  go_enter Try.func58, Try.ntmps58
  go_wp2
  rw [run_callFunc_extern Try.func57 (by kernel_rfl) (by kernel_rfl) (by kernel_rfl) (e := Extern.MapsClone.clone) (by kernel_rfl), run_maps_clone_sl w 85 hb]
  simp only [Result.andThen]
  rw [Oper.upon_value]
  go_wp2
  rw [run_typeAssert_map_sl _ 85 20 _ _ _ und_mp]
  simp only [Result.andThen]
  rw [Oper.upon_value]
  go_wp2
  go_ret
  exact ⟨rfl, HM.out, balloc (Below.refl _ _) _⟩
/-- A map laid over another one. -/
def ovr (l o : Nat → Option (Nat × Nat)) : Nat → Option (Nat × Nat) := fun n => match l n with | none => o n | some v => putO v (0, 0)
/-- .. as far as it is gone over. -/
def ovrL (l o : Nat → Option (Nat × Nat)) (left : Nat → Bool) : Nat → Option (Nat × Nat) := fun n => match l n with | none => o n | some v => if left n = true then o n else putO v (0, 0)
theorem ovrL_start (l o : Nat → Option (Nat × Nat)) : ovrL l o (fun n => (l n).isSome) = o := by
  funext n; unfold ovrL
  cases h : l n with
  | none => rfl
  | some v => simp [h]
theorem ovrL_done {l o : Nat → Option (Nat × Nat)} {left : Nat → Bool} (h : ∀ n v, l n = some v → left n = false) : ovrL l o left = ovr l o := by
  funext n; unfold ovrL ovr
  cases hl : l n with
  | none => rfl
  | some v => simp [h n v hl]
theorem ovrL_step {l o : Nat → Option (Nat × Nat)} {left : Nat → Bool} {n : Nat} {v : Nat × Nat} (h : l n = some v) : upd (ovrL l o left) n (putO v (0, 0)) = ovrL l o (fun k => left k && decide (k ≠ n)) := by
  funext k
  by_cases e : k = n
  · subst e; rw [upd_same]; unfold ovrL; rw [h]; simp
  · rw [upd_other _ _ e]; unfold ovrL
    cases l k with
    | none => rfl
    | some u => simp [e]
theorem ovr_none {l o : Nat → Option (Nat × Nat)} (h : ∀ n, l n = none) : ovr l o = o := by funext n; unfold ovr; rw [h n]
set_option maxRecDepth 100000 in
set_option maxHeartbeats 4000000 in
theorem over_any (bl bo : Nat) (l o : Nat → Option (Nat × Nat)) (w : World) (hl : Mp w bl l) (ho : Mp w bo o) :
    Calls Try.prog 56 #[.map (some bl), .map (some bo)] w fun e w' => ∃ b, e = .returned (.map (some b)) ∧ Mp w' b (ovr l o) ∧ (b = bo ∨ w.heap.size ≤ b) ∧ Below w.heap.size w w' := by
  obtain ⟨k, hlen, hk0⟩ := hl.len und_mp 3
  by_cases hz : k = 0
  · have hov := ovr_none (o := o) (hk0.1 hz)
    subst hz
    have HO := Lib.hid (And.intro hov ho)
    clear hl ho hk0 hov
    go_enter Try.func56, Try.ntmps56
    go_wp2_with fail
    go_ret
    exact ⟨_, rfl, by rw [HO.out.1]; exact HO.out.2, .inl rfl, Below.refl _ _⟩
  · have hkI : ((k : Int) == 0) = false := by rw [beq_eq_false_iff_ne]; omega
    have HC := Lib.hid (clone_any bo o w ho)
    have HL := Lib.hid (And.intro hl ho)
    clear hl ho hk0
    go_enter Try.func56, Try.ntmps56
    go_upto_region 4 with (first | (go_at_call 58; refine (HC.out).mono ?_; rintro e w1 ⟨rfl, hm, hb⟩; have H1 := Lib.hid (And.intro hm hb); clear hm hb) | fail)
    obtain ⟨Y, cnt, hrun, hR, hB, hs⟩ := (HL.out.1.keep H1.out.2).range und_mp
    have HY := Lib.hid (And.intro hR (And.intro hB hs))
    clear hR hB hs
    go_wp2_with fail
    go_loopw [] (fun wr => ∃ left c, Rg wr bl w1.heap.size l left c ∧ Mp wr w.heap.size (ovrL l o left) ∧ Below w.heap.size w wr) (fun wr => wr.rangeLeft bl w1.heap.size)
    case atStart => exact ⟨_, _, HY.out.1, by rw [ovrL_start]; exact H1.out.1.keep HY.out.2.1, bstep H1.out.2 HY.out.2.1⟩
    case round =>
      obtain ⟨left, c, hR, hm, hW⟩ := hrel
      clear HY hrun
      have hne : w.heap.size ≠ w1.heap.size := Nat.ne_of_lt (Nat.lt_of_lt_of_le H1.out.1.lt (Nat.le_refl _))
      have hwlt : w.heap.size < w1.heap.size := H1.out.1.lt
      rcases hR.next with ⟨hc, hdone, hrun⟩ | ⟨n, v, Y1, c1, hn, hv, hln, hleft, hrun, hR1, hlt, hC1, hs1, hen⟩
      · have HX := Lib.hid (And.intro hm (And.intro hW (ovrL_done (o := o) hdone)))
        clear hR hm hW hdone
        go_wp2_with fail
        go_ret
        exact ⟨_, rfl, by rw [← HX.out.2.2]; exact HX.out.1, .inr (Nat.le_refl _), HX.out.2.1⟩
      · have hm1 : Mp Y1 w.heap.size (ovrL l o left) := hm.chg hC1 hne
        obtain ⟨W3, hW3⟩ : ∃ W3, (Y1.alloc (.cells (Wc n) 33)).alloc (.cells (vA v.1 v.2) 36) = W3 := ⟨_, rfl⟩
        have hal : Below Y1.heap.size Y1 W3 := by rw [← hW3]; exact balloc (balloc (Below.refl _ _) _) _
        have HP := Lib.hid (put_any w.heap.size _ n hn v (0, 0) hv okP0 W3 (hm1.keep hal))
        rw [ovrL_step hln, vP0, ← hW3] at HP
        rw [← hW3] at hal
        clear hW3
        have HX := Lib.hid (And.intro hR (And.intro hW (And.intro hR1 (And.intro hal (And.intro hC1 (And.intro hlt (And.intro hne hs1)))))))
        clear hR hm hW hR1 hm1 hC1 hleft hln hlt hal hne hs1 hv hn
        go_wp2_with (first | (go_at_call 38; refine (HP.out).mono ?_; rintro e z ⟨⟨r, rfl⟩, hmz, hcz⟩; have HZ := Lib.hid (And.intro hmz hcz); clear hmz hcz) | fail)
        have hz := (HX.out.2.2.1.keep HX.out.2.2.2.1).chg HZ.out.2 (fun e => by have := HX.out.1.map.lt; have := HL.out.1.lt; omega) (Ne.symm HX.out.2.2.2.2.2.2.1)
        have hl := hz.left_eq
        have hr := HX.out.1.left_eq
        refine ⟨⟨_, _, hz, HZ.out.1, ?_⟩, by rw [hl, hr]; exact HX.out.2.2.2.2.2.1⟩
        have h1 : Below w.heap.size w Y1 := HX.out.2.1.trans (HX.out.2.2.2.2.1.below (Nat.le_of_lt (by have := HX.out.2.1.size; have := HX.out.1.lt; omega)) (fun k hk e => by omega))
        have h2 := h1.trans (HX.out.2.2.2.1.mono h1.size)
        exact h2.trans (HZ.out.2.below h2.size (fun k hk e => by omega))

end Go.Proofs.Ytcplhalgjjhmdaa
