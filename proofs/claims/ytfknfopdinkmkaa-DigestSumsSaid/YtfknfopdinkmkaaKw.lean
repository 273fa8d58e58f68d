/- digest: the reference's Turn. -/
import Derived.Test.YtfknfopdinkmkaaKv
import Derived.Test.YtfknfopdinkmkaaKr
import Derived.Laws.CopyOwn
namespace Go.Proofs.Ytfknfopdinkmkaa
open Go.RowKit
attribute [local irreducible] ln rot
set_option maxRecDepth 100000 in
set_option maxHeartbeats 4000000 in
theorem rturn_any (f : Nat → Ln) (w : World) :
    Calls Try.prog 16 #[.agg (Fc 25 f)] w fun e w' => e = .returned (.agg (Fc 25 (rnds f 24))) ∧ Below w.heap.size w w' := by
  have Z25 := Lib.hid z25'
  go_enter Try.func16, Try.ntmps16
  go_wp2_with fail
  rw [← Z25.out]
  have hS : Blk ((w.alloc (.cells (Fc 25 f) 42)).alloc (.cells (Fc 25 (fun _ => 0#64)) 42)) w.heap.size 42 (Fc 25 f) := (Blk.new w _ _).alloc _
  have hR : Blk ((w.alloc (.cells (Fc 25 f) 42)).alloc (.cells (Fc 25 (fun _ => 0#64)) 42)) (w.heap.size + 1) 42 (Fc 25 (fun _ => 0#64)) := Blk.newS w _ _ _
  have hW := balloc (balloc (Below.refl w.heap.size w) (.cells (Fc 25 f) 42)) (.cells (Fc 25 (fun _ => 0#64)) 42)
  have HX := Lib.hid (And.intro hS (And.intro hR hW))
  clear hS hR hW Z25
  go_loopw [3] (fun i wr => ∃ k : Nat, k ≤ 24 ∧ i = .int .i64 (k : Int) ∧ Blk wr w.heap.size 42 (Fc 25 (rnds f k)) ∧ Blk wr (w.heap.size + 1) 42 (Fc 25 (fun _ => 0#64)) ∧ Below w.heap.size w wr) (fun i _ => 24 - (intOf i).toNat)
  case atStart => exact ⟨0, by omega, rfl, HX.out⟩
  case round =>
    clear HX
    obtain ⟨k, hk, rfl, hS, hR, hW⟩ := hrel
    by_cases hlt : k < 24
    · have hkI : (k : Int) < 24 := by omega
      have HX := Lib.hid (And.intro hS (And.intro hR hW))
      clear hS hR hW
      go_upto_region 4 with fail
      obtain ⟨hS, hR, hW⟩ := HX.out
      have hi : (Try.prog.info? 42).map (·.size) = some (Fc 25 (rnds f k)).size := by rw [info25, Fc_size]
      refine wp_region_lit (wpList_load_mid rfl 42 (.tmp 1) rfl w.heap.size 0 rfl (Fc 25 (rnds f k)).toList _ hS.rangeAt und25 rfl hi ?_)
      rw [Array.toArray_toList]
      clear hS hR hW hi
      refine wpList_plain rfl fun K hK => ?_
      go_simp
      refine hK _ _ ?_
      clear hK K
      refine wpList_plain rfl fun K hK => ?_
      go_simp
      go_at_call 24
      refine (rround_any (rnds f k) k hlt _).mono ?_
      rintro e w4 ⟨rfl, h4⟩
      refine hK _ _ ?_
      clear hK K
      obtain ⟨hS, hR, hW⟩ := HX.out
      have hS := hS.keep h4
      have hR := hR.keep h4
      have hW := bstep hW h4
      clear HX
      refine wpList_store_row rfl 42 (.tmp 1) (.tmp 10) rfl w.heap.size (Fc 25 (rnd k (rnds f k))) rfl rfl 42 (Fc 25 (rnds f k)) hS (by rw [info25, Fc_size]) (by rw [Fc_size, Fc_size]) (Fc_one _ _) (wpList_nil ?_)
      have hS2 : Blk (w4.setRow w.heap.size (Fc 25 (rnd k (rnds f k)))) w.heap.size 42 (Fc 25 (rnds f (k + 1))) := setRow_heap _ _ _ _ _ _ hS
      have hR2 : Blk (w4.setRow w.heap.size (Fc 25 (rnd k (rnds f k)))) (w.heap.size + 1) 42 (Fc 25 (fun _ => 0#64)) := (setRow_other _ _ _ _ (by omega)).trans hR
      have hW2 := below_setRow hW (Nat.le_refl _) (Fc 25 (rnd k (rnds f k)))
      generalize w4.setRow w.heap.size (Fc 25 (rnd k (rnds f k))) = wz at hS2 hR2 hW2 ⊢
      have HX := Lib.hid (And.intro hS2 (And.intro hR2 hW2))
      clear hS2 hR2 hW2 hS hR hW h4
      go_wp2_with fail
      exact ⟨⟨k + 1, by omega, by go_num, HX.out⟩, by simp [intOf]; omega⟩
    · obtain rfl : k = 24 := by omega
      rw [show ((24 : Nat) : Int) = 24 from rfl]
      have HX := Lib.hid (And.intro hS (And.intro hR hW))
      clear hS hR hW
      go_upto_region 5 with fail
      obtain ⟨hS, hR, hW⟩ := HX.out
      clear HX
      obtain ⟨res, hres⟩ : ∃ res, rnds f 24 = res := ⟨_, rfl⟩
      rw [hres] at hS
      have HRS := Lib.hid hres
      have hi : (Try.prog.info? 42).map (·.size) = some (Fc 25 res).size := by rw [info25, Fc_size]
      have ht : wr.there (w.heap.size + 1) 0 (Fc 25 res).size := hR.there _ (by rw [Fc_size, Fc_size]; exact Nat.le_refl _)
      have hrr : (loadVar 42 ⟨w.heap.size + 1, 0, none⟩).run Try.prog (wr.setCells (w.heap.size + 1) 0 (Fc 25 res).toList) = .ok (.agg (Fc 25 res)) (wr.setCells (w.heap.size + 1) 0 (Fc 25 res).toList) :=
        run_loadVar_mid _ _ _ _ (Fc 25 res).toList _ (World.rangeAt_setCells_same _ _ _ _ ht) und25 rfl hi
      have hB' := below_setCells' (B := w.heap.size) (b := w.heap.size + 1) (by omega) (Fc 25 res).toList 0 wr hW
      refine wp_region_lit (wpList_load_mid rfl 42 (.tmp 1) rfl w.heap.size 0 rfl (Fc 25 res).toList _ hS.rangeAt und25 rfl hi ?_)
      refine wpList_store_mid rfl 42 (.tmp 2) (.tmp 11) rfl (w.heap.size + 1) 0 (Fc 25 res) rfl rfl ht hi (Fc_one _ _) (wpList_nil ?_)
      clear hS hR hW ht hi hres
      generalize wr.setCells (w.heap.size + 1) 0 (Fc 25 res).toList = wz at *
      go_wp2_with fail
      exact bodyPost_ret (v := .agg (Fc 25 res)) (by simp [results, Try.results16, Act.put, asAddr, hrr]) rfl ⟨by rw [HRS.out], hB'⟩
end Go.Proofs.Ytfknfopdinkmkaa
