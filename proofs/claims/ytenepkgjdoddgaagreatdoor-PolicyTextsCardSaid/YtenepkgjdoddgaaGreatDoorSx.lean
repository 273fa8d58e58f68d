/- policy's laws: Of, and the address of an address's text. -/
import Derived.Test.YtenepkgjdoddgaaGreatDoorPb
import Derived.Test.YtenepkgjdoddgaaGreatDoorPe
namespace Go.Proofs.YtenepkgjdoddgaaGreatDoor
open Go.RowKit Go.Shelf
attribute [local irreducible] lb
/-- The last twenty bytes of a word. -/
def lowA (n : Nat) : List Nat := (List.range 20).map fun i => byA n (19 - i)
theorem lowA_ad (n : Nat) : Ad (lowA n) := by
  refine ⟨by unfold lowA; simp, fun x hx => ?_⟩
  unfold lowA at hx
  simp only [List.mem_map] at hx
  obtain ⟨i, _, rfl⟩ := hx
  exact byA_lt _ _
theorem low_range {X : World} {b : Nat} {n : Nat} (h : Blk X b 5 (byC n 32)) : X.rangeAt b 12 (adC (lowA n)).toList := by
  intro j v hv
  rw [adC_list] at hv
  unfold bvs lowA at hv
  rw [List.getElem?_map, List.getElem?_map] at hv
  by_cases hj : j < 20
  · rw [List.getElem?_range hj] at hv
    simp only [Option.map_some, Option.some.injEq] at hv
    subst hv
    rw [cell_of_row X b (12 + j) _ _ _ h, byC_get n 32 (12 + j) (by omega), if_pos (by omega), show 31 - (12 + j) = 19 - j by omega]
  · rw [List.getElem?_eq_none (by simp; omega)] at hv
    cases hv
set_option maxRecDepth 100000 in
set_option maxHeartbeats 4000000 in
theorem ofW_any (n : Nat) (w : World) : Calls Tryz.prog 34 #[W n] w fun e w' => e = .returned (.agg (adC (lowA n))) ∧ Below w.heap.size w w' := by
  have HA := Lib.hid (lowA_ad n)
  go_enter Tryz.func34, Tryz.ntmps34
  go_upto_region 2 with (go_at_call 73; refine (bytes_any n _).mono ?_; rintro e w1 ⟨rfl, hb1, h1⟩)
  rw [← zaC_lit] at hb1 h1
  have hZ : Blk w1 (w.heap.size + 1) 29 zaC := (Blk.newS w (.cells #[.int .u64 (lb n 0), .int .u64 (lb n 1), .int .u64 (lb n 2), .int .u64 (lb n 3)] 58) 29 zaC).keep h1
  have hW : Below w.heap.size w w1 := bstep (balloc (balloc (Below.refl _ _) _) _) h1
  simp only [World.size_alloc] at hb1
  have hr := low_range hb1
  clear h1
  have harr : (Instr.arrayAt 29 (.slice (some ⟨w.heap.size + 1 + 1 + 1, 12, none⟩) 20 20)).run Tryz.prog w1 = .ok (.pointer (some ⟨w.heap.size + 1 + 1 + 1, 12, none⟩)) w1 := by kernel_rfl
  refine wp_region_lit ?_
  refine wpList_plain rfl fun K hK => ?_
  go_simp
  refine hK _ _ ?_
  clear hK K
  refine wpList_plain rfl fun K hK => ?_
  go_simp
  refine hK _ _ ?_
  clear hK K
  refine wpList_plain rfl fun K hK => ?_
  go_simp
  refine hK _ _ ?_
  clear hK K
  refine wpList_plain rfl fun K hK => ?_
  go_simp
  refine hK _ _ ?_
  clear hK K
  refine wpList_plain rfl fun K hK => ?_
  go_simp
  refine hK _ _ ?_
  clear hK K
  refine wpList_plain rfl fun K hK => ?_
  go_simp
  refine hK _ _ ?_
  clear hK K
  refine wpList_load_midA rfl 29 (.tmp 11) rfl (w.heap.size + 1 + 1 + 1) 12 rfl (adC (lowA n)) _ hr und_addr rfl (by rw [info_addr, adC_size HA.out]) ?_
  refine wpList_store_row rfl 29 (.tmp 2) (.tmp 12) rfl (w.heap.size + 1) (adC (lowA n)) rfl rfl 29 zaC hZ (by rw [info_addr, adC_size HA.out]) (by rw [zaC_size, adC_size HA.out]) (adC_one _) (wpList_nil ?_)
  have hgr : Blk (w1.setRow (w.heap.size + 1) (adC (lowA n))) (w.heap.size + 1) 29 (adC (lowA n)) := setRow_heap _ _ _ _ _ _ hZ
  have HE := Lib.hid (And.intro hgr (hW.trans (⟨rfl, rfl, rfl, by simp, fun k hk => setRow_other _ _ _ _ (by omega)⟩ : Below w.heap.size w1 (w1.setRow (w.heap.size + 1) (adC (lowA n))))))
  clear hb1 hr hZ hW hgr harr
  generalize w1.setRow (w.heap.size + 1) (adC (lowA n)) = Z at HE ⊢
  go_wp2_with fail
  exact ⟨rfl, _, results_cell_row rfl _ _ (w.heap.size + 1) 29 (adC (lowA n)) (0, 0) _ rfl HE.out.1 und_addr rfl (by rw [info_addr, adC_size HA.out]), rfl, HE.out.2⟩
end Go.Proofs.YtenepkgjdoddgaaGreatDoor
