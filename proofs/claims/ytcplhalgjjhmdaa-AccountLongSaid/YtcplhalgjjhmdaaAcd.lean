/- account: put an entry; an account's body and back. -/
import Derived.Test.YtcplhalgjjhmdaaAcc
namespace Go.Proofs.Ytcplhalgjjhmdaa
open Go.RowKit Go.Shelf Go.ChangeMaps Go.MapKept

/-- What a map has once an entry was put. -/
def gput (m : List Nat → Option En) (a : List Nat) (e : En) : List Nat → Option En := gupd m a (if e = zE then none else some e)
set_option maxRecDepth 100000 in
set_option maxHeartbeats 4000000 in
theorem eput_any (b : Nat) (m : List Nat → Option En) (a : List Nat) (ha : Ad a) (e : En) (he : okE e) (w : World) (h : GMp enD w b m) :
    Calls Try.prog 23 #[.map (some b), .agg (adC a), .agg (enC e)] w fun r w' => (∃ x, r = .returned x) ∧ GMp enD w' b (gput m a e) ∧ Chg (fun k => k = b) w w' := by
  have heq := fun X => eqEn_zero e he X
  unfold zlA at heq
  obtain ⟨E, hE⟩ : ∃ E, enC e = E := ⟨_, rfl⟩
  rw [hE] at heq
  obtain ⟨X, hX⟩ : ∃ X, (w.alloc (.cells (adC a) 28)).alloc (.cells E 73) = X := ⟨_, rfl⟩
  have b1 : Blk X w.heap.size 28 (adC a) := by rw [← hX]; exact (Blk.new w _ _).alloc _
  have b2 : Blk X (w.heap.size + 1) 73 E := by rw [← hX]; exact Blk.newS w _ _ _
  have hW : Below w.heap.size w X := by rw [← hX]; exact balloc (balloc (Below.refl _ _) _) _
  have hEs : E.size = 8 := by rw [← hE]; rfl
  have hm := h.keep hW
  have hc := (Chg.new (M := fun k => k = b) hW)
  have HX := Lib.hid (And.intro hX (And.intro b1 b2))
  have HE := Lib.hid hEs
  have HA := Lib.hid ha
  by_cases hz : e = zE
  · have HQ := Lib.hid (show gput m a e = gupd m a none from by unfold gput; rw [if_pos hz])
    simp only [decide_eq_true hz] at heq
    obtain ⟨Y, hrun, hY, hC, _⟩ := hm.del enK und_ens a ha
    replace hrun : ∀ ty, (Builtin.delete_ #[65, 28] ty #[.map (some b), .agg (adC a)]).run Try.prog X = .ok (.tuple #[]) Y := hrun
    have HY := Lib.hid (And.intro hY (hc.trans hC (fun _ _ h => h)))
    rw [hE]
    clear hz h hm hW hc hY hC hX b1 b2 hEs ha he hE
    go_enter Try.func23, Try.ntmps23
    go_upto_region 1 with fail
    rw [HX.out.1]
    refine wp_region_lit ?_
    refine wpList_load_midA rfl 73 (.tmp 5) rfl (w.heap.size + 1) 0 rfl E _ HX.out.2.2.range unden rfl (by rw [info_en, HE.out]) ?_
    refine wpList_plain rfl fun K hK => ?_; go_simp; refine hK _ _ ?_; clear hK K
    refine wpList_plain rfl fun K hK => ?_; go_simp; refine hK _ _ ?_; clear hK K
    refine wpList_nil ?_
    go_upto_region 2 with fail
    refine wp_region_lit ?_
    refine wpList_plain rfl fun K hK => ?_; go_simp; refine hK _ _ ?_; clear hK K
    refine wpList_load_midA rfl 28 (.tmp 4) rfl w.heap.size 0 rfl (adC a) _ HX.out.2.1.range und_addr rfl (by rw [info_addr, adC_size HA.out]) ?_
    refine wpList_plain rfl fun K hK => ?_; go_simp; refine hK _ _ ?_; clear hK K
    refine wpList_nil ?_
    go_wp2_with fail
    refine bodyPost_ret (results_none rfl _ _ _) rfl ?_
    rw [HQ.out]
    exact ⟨⟨_, rfl⟩, HY.out⟩
  · have HQ := Lib.hid (show gput m a e = gupd m a (some e) from by unfold gput; rw [if_neg hz])
    simp only [decide_eq_false hz] at heq
    obtain ⟨Y, hrun, hY, hC, _⟩ := hm.store enK und_ens a ha e he
    replace hrun : (Instr.mapUpdate 65 (.map (some b)) (.agg (adC a)) (.agg E)).run Try.prog X = .ok () Y := by rw [← hE]; exact hrun
    have HY := Lib.hid (And.intro hY (hc.trans hC (fun _ _ h => h)))
    rw [hE]
    clear hz h hm hW hc hY hC hX b1 b2 hEs ha he hE
    go_enter Try.func23, Try.ntmps23
    go_upto_region 1 with fail
    rw [HX.out.1]
    refine wp_region_lit ?_
    refine wpList_load_midA rfl 73 (.tmp 5) rfl (w.heap.size + 1) 0 rfl E _ HX.out.2.2.range unden rfl (by rw [info_en, HE.out]) ?_
    refine wpList_plain rfl fun K hK => ?_; go_simp; refine hK _ _ ?_; clear hK K
    refine wpList_plain rfl fun K hK => ?_; go_simp; refine hK _ _ ?_; clear hK K
    refine wpList_nil ?_
    go_upto_region 3 with fail
    refine wp_region_lit ?_
    refine wpList_plain rfl fun K hK => ?_; go_simp; refine hK _ _ ?_; clear hK K
    refine wpList_load_midA rfl 28 (.tmp 4) rfl w.heap.size 0 rfl (adC a) _ HX.out.2.1.range und_addr rfl (by rw [info_addr, adC_size HA.out]) ?_
    refine wpList_load_midA rfl 73 (.tmp 5) rfl (w.heap.size + 1) 0 rfl E _ HX.out.2.2.range unden rfl (by rw [info_en, HE.out]) ?_
    refine wpList_plain rfl fun K hK => ?_; go_simp; refine hK _ _ ?_; clear hK K
    refine wpList_nil ?_
    go_wp2_with fail
    refine bodyPost_end (results_none rfl _ _ _) rfl ?_
    rw [HQ.out]
    exact ⟨⟨_, rfl⟩, HY.out⟩
end Go.Proofs.Ytcplhalgjjhmdaa
