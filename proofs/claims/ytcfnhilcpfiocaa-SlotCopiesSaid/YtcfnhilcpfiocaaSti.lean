/- slot: Settle. -/
import Derived.Test.YtcfnhilcpfiocaaSth
namespace Go.Proofs.Ytcfnhilcpfiocaa
open Go.RowKit Go.Shelf Go.ChangeMaps Go.MapKept

set_option maxRecDepth 100000 in
set_option maxHeartbeats 2000000 in
theorem settle_any (g bv bw many : Nat) (fv fw : Nat → Option (Nat × Nat)) (w : World) (h : SlB w g bv bw fv fw many) :
    Calls Try.prog 17 #[.pointer (some ⟨g, 0, none⟩)] w fun e w' => ∃ bv' bw', e = .returned (.int .i64 0) ∧ SlB w' g bv' bw' (fun _ => none) (ovr fv fw) many ∧ w.heap.size ≤ bv' ∧ (bw' = bw ∨ w.heap.size ≤ bw') ∧ Chg (fun k => k = g) w w' := by
  have hmk : ∀ X : World, (Instr.makeMap 42 none).run Try.prog X = .ok (.map (some X.heap.size)) (X.alloc (.map #[] 0)) := fun X => by simp [Instr.makeMap, go_sem, Result.andThen]
  have hNone := Lib.hid (none_not g bv _ _ w h.1)
  have HO := Lib.hid (fun X (hX : Below w.heap.size w X) => over_any bv bw fv fw X (h.2.1.keep hX) (h.2.2.1.keep hX))
  have c0 : w.drew.cell? ⟨g, 0, none⟩ = some (.map (some bv)) := cell_of_row _ _ 0 _ _ _ (Blk.drew' h.1)
  have c1 : w.drew.cell? ⟨g, 1, none⟩ = some (.map (some bw)) := cell_of_row _ _ 1 _ _ _ (Blk.drew' h.1)
  have H := Lib.hid h
  have hbd : Below w.heap.size w w.drew := below_drew' (Below.refl _ _)
  have HD := Lib.hid hbd
  clear h hbd
  go_enter Try.func17, Try.ntmps17
  go_wp2_with fail
  refine wp_scope_jumps 0 (fun _ _ => False) (fun _ _ => 0) rfl ?first ?pass
  case pass => intro a w h; exact h.elim
  case first =>
    go_upto_region 2 with (first | (go_at_call 26; refine (hNone.out).mono ?_; rintro e w1 ⟨rfl, rfl⟩) | fail)
    go_region_law (first | (go_simp; go_at_call 29; refine (HO.out _ HD.out).mono ?_; rintro e z ⟨b, rfl, hm, hb, hz⟩; have hB := HD.out.trans (hz.mono HD.out.size); have fz := frozen_of_row _ _ 1 _ _ (H.out.1.keep hB); have cz := cell_of_row _ _ 1 _ _ _ (H.out.1.keep hB); have HZ := Lib.hid (And.intro hm (And.intro hb hB)); clear hm hb hz hB))
    all_goals
      obtain ⟨Z1, hZ1⟩ : ∃ Z1, z.setCell ⟨g, 1, none⟩ (Value.map (some b)) = Z1 := ⟨_, rfl⟩
      rw [hZ1]
      have hbz : Blk Z1 g 44 #[.map (some bv), .map (some b), .int .i64 many] := by rw [← hZ1]; exact heap_setCell_same z g 1 _ _ _ (H.out.1.keep HZ.out.2.2)
      have hcz : Chg (fun k => k = g) w Z1 := by rw [← hZ1]; exact (Chg.new HZ.out.2.2).set g 1 _ (fun _ => rfl)
      have hmz : Mp Z1 b (ovr fv fw) := by rw [← hZ1]; exact HZ.out.1.chg (Chg.of (grown_set' (grown_refl z g) 1 _)) (fun e => by injection e with e; exact blk_ne_map (H.out.1.keep HZ.out.2.2) HZ.out.1 e.symm)
      have f0 : (Z1.alloc (.map #[] 0)).frozen? ⟨g, 0, none⟩ = false := frozen_of_row _ _ 0 _ _ (hbz.alloc _)
      have g0 : (Z1.alloc (.map #[] 0)).cell? ⟨g, 0, none⟩ = some (.map (some bv)) := cell_of_row _ _ 0 _ _ _ (hbz.alloc _)
      have HF := Lib.hid (And.intro hbz (And.intro hcz hmz))
      clear hZ1 hbz hcz hmz fz cz c0 c1
      go_wp2_with fail
      simp only [Exit.jump]
      go_ret
      have hs1 := HF.out.2.1.size
      have hba : Below Z1.heap.size Z1 (Z1.alloc (.map #[] 0)) := balloc (Below.refl _ _) _
      have hset := Chg.of (grown_set' (grown_refl (Z1.alloc (.map #[] 0)) g) 0 (.map (some Z1.heap.size)))
      have hgs := HF.out.1.lt
      have hb2 : ¬ some b = some g := fun e => by injection e with e; exact blk_ne_map HF.out.1 HF.out.2.2 e.symm
      have hbl := HF.out.2.2.lt
      exact ⟨Z1.heap.size, b, rfl, ⟨heap_setCell_same _ g 0 _ _ _ (HF.out.1.alloc _), (Mp.made Z1 0).chg hset (fun e => by injection e with e; omega), (HF.out.2.2.keep hba).chg hset hb2, by omega⟩, hs1, HZ.out.2.1.imp (fun e => e) (fun e => Nat.le_trans HD.out.size e), (HF.out.2.1.then_alloc _).set g 0 _ (fun _ => rfl)⟩

end Go.Proofs.Ytcfnhilcpfiocaa
