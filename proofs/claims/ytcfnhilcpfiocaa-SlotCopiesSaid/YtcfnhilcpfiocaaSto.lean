/- slot: Alike. -/
import Derived.Test.YtcfnhilcpfiocaaStm
namespace Go.Proofs.Ytcfnhilcpfiocaa
open Go.RowKit Go.Shelf Go.ChangeMaps Go.MapKept

theorem smP_comm (u v : Nat × Nat) (up : Nat) : smP u v up = smP v u up := by
  unfold smP smB
  by_cases h : u.2 = v.2
  · rw [h]
    by_cases h2 : u.1 = v.1
    · rw [h2]
    · have e1 : (u.1 == v.1) = false := by simpa using h2
      have e2 : (v.1 == u.1) = false := by simpa using Ne.symm h2
      rw [e1, e2]
  · have e1 : (u.2 == v.2) = false := by simpa using h
    have e2 : (v.2 == u.2) = false := by simpa using Ne.symm h
    rw [e1, e2]; rfl
theorem smP_refl (u : Nat × Nat) (up : Nat) : smP u u up = true := by unfold smP smB; simp
theorem kyB_comm (fv fw hv hw : Nat → Option (Nat × Nat)) (up x : Nat) : kyB fv fw hv hw up x = kyB hv hw fv fw up x := by
  unfold kyB; rw [smP_comm, smP_comm (lk fw x)]
theorem kyB_none {fv fw hv hw : Nat → Option (Nat × Nat)} (up : Nat) {x : Nat} (h : ¬ hasK fv fw x) (k : ¬ hasK hv hw x) : kyB fv fw hv hw up x = true := by
  have h1 : fv x = none := Classical.byContradiction fun e => h (.inl e)
  have h2 : fw x = none := Classical.byContradiction fun e => h (.inr e)
  have k1 : hv x = none := Classical.byContradiction fun e => k (.inl e)
  have k2 : hw x = none := Classical.byContradiction fun e => k (.inr e)
  unfold kyB
  rw [lk2_none h1, lk2_none k1, lk_none h2, lk_none k2, smP_refl]; rfl
/-- Are two storages alike up to a label? -/
def AlS (fv fw hv hw : Nat → Option (Nat × Nat)) (up : Nat) : Prop := ∀ x, kyB fv fw hv hw up x = true
set_option maxRecDepth 100000 in
set_option maxHeartbeats 2000000 in
theorem salike_any (g bv bw many g2 cv cw many2 up : Nat) (fv fw hv hw : Nat → Option (Nat × Nat)) (hup : up < 2 ^ 64) (w : World) (h1 : SlB w g bv bw fv fw many) (h2 : SlB w g2 cv cw hv hw many2) :
    Calls Try.prog 20 #[.pointer (some ⟨g, 0, none⟩), .pointer (some ⟨g2, 0, none⟩), .int .u64 (up : Nat)] w fun e w' => ∃ t : Bool, e = .returned (.bool t) ∧ (t = true ↔ AlS fv fw hv hw up) ∧ Below w.heap.size w w' := by
  have hn1 := Lib.hid (none_not g bv _ _ w h1.1)
  have hn2 := Lib.hid (none_not g2 cv _ _ w h2.1)
  have HW1 := Lib.hid (within_any g bv bw many g2 cv cw many2 up fv fw hv hw hup w h1 h2)
  have HW2 := Lib.hid (fun X (k : Below w.heap.size w X) => within_any g2 cv cw many2 g bv bw many up hv hw fv fw hup X (h2.keep k) (h1.keep k))
  clear h1 h2 hup
  go_enter Try.func20, Try.ntmps20
  go_wp2_with fail
  refine wp_scope_jumps 0 (fun _ _ => False) (fun _ _ => 0) rfl ?first ?pass
  case pass => intro a w h; exact h.elim
  case first =>
    go_wp2_with (first
      | (go_at_call 26; with_reducible refine (hn1.out).mono ?_; rintro e w1 ⟨rfl, rfl⟩)
      | (go_at_call 26; with_reducible refine (hn2.out).mono ?_; rintro e w1 ⟨rfl, rfl⟩)
      | (go_at_call 36; with_reducible refine (HW1.out).mono ?_; rintro e w2 ⟨t1, rfl, ht1, hb1⟩; have H1 := Lib.hid (And.intro ht1 hb1); clear ht1 hb1; cases t1)
      | (go_at_call 36; with_reducible refine (HW2.out _ H1.out.2).mono ?_; rintro e w3 ⟨t2, rfl, ht2, hb2⟩; have H2 := Lib.hid (And.intro ht2 hb2); clear ht2 hb2)
      | with_reducible refine And.intro (fun f h => (by cases h)) ?_
      | fail)
    · simp only [Exit.jump]
      go_ret
      refine ⟨false, rfl, ⟨fun h => (by cases h), fun h => ?_⟩, H1.out.2⟩
      exact H1.out.1.2 fun x _ => h x
    · simp only [Exit.jump]
      go_ret
      refine ⟨t2, rfl, ⟨fun h x => ?_, fun h => H2.out.1.2 fun x _ => by rw [kyB_comm]; exact h x⟩, bstep H1.out.2 H2.out.2⟩
      by_cases q : hasK fv fw x
      · exact H1.out.1.1 trivial x q
      · by_cases q2 : hasK hv hw x
        · rw [kyB_comm]; exact H2.out.1.1 h x q2
        · exact kyB_none up q q2

end Go.Proofs.Ytcfnhilcpfiocaa
