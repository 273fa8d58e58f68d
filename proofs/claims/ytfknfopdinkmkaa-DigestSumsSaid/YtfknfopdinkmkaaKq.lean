/- digest: works. -/
import Derived.Test.YtfknfopdinkmkaaKp
import Derived.Test.YtfknfopdinkmkaaPb
namespace Go.Proofs.Ytfknfopdinkmkaa
open Go.RowKit Go.Shelf
theorem rv0 : ln (rcv 0) = 1 := by rw [rcv_0]; rfl
theorem rv1 : ln (rcv 1) = 32898 := by rw [rcv_1]; rfl
theorem rv23 : ln (rcv 23) = 9223372039002292232 := by rw [rcv_23]; rfl
theorem txt0 : txtL hash0 = [48, 120, 99, 53, 100, 50, 52, 54, 48, 49, 56, 54, 102, 55, 50, 51, 51, 99, 57, 50, 55, 101, 55, 100, 98, 50, 100, 99, 99, 55, 48, 51, 99, 48, 101, 53, 48, 48, 98, 54, 53, 51, 99, 97, 56, 50, 50, 55, 51, 98, 55, 98, 102, 97, 100, 56, 48, 52, 53, 100, 56, 53, 97, 52, 55, 48] := by decide +kernel
theorem und31 : Try.prog.underlying 24 = some (.array 32 5) := by kernel_rfl
attribute [local irreducible] ln rot Fc Bc hash0 lb
set_option maxRecDepth 100000 in
set_option maxHeartbeats 4000000 in
theorem works_anyK (w : World) : Calls Try.prog 5 #[] w fun e w' => e = .returned (.bool true) ∧ Below w.heap.size w w' := by
  go_enter Try.func5, Try.ntmps5
  go_wp2_with fail
  refine (Constants_any _).mono ?_
  rintro e w1 ⟨rfl, h1⟩
  rename_i K hK
  refine hK _ _ ?_
  clear hK K
  refine wpList_plain rfl fun K hK => ?_
  go_simp
  refine hK _ _ ?_
  clear hK K
  rw [← z24]
  refine wpList_store_row rfl 38 (.tmp 1) (.tmp 3) rfl w1.heap.size (Fc 24 rcv) rfl rfl 38 (Fc 24 (fun _ => 0#64)) (Blk.new w1 _ _) (by rw [info24, Fc_size]) (by rw [Fc_size, Fc_size]) (Fc_one _ _) (wpList_nil ?_)
  rw [World.setRow_alloc_new]
  have hM := Blk.new w1 38 (Fc 24 rcv)
  have hW := balloc h1 (.cells (Fc 24 rcv) 38)
  obtain ⟨w2, hw2⟩ : ∃ w2, w1.alloc (.cells (Fc 24 rcv) 38) = w2 := ⟨_, rfl⟩
  rw [hw2] at hM hW ⊢
  generalize w1.heap.size = gm at hM ⊢
  clear hw2 h1
  have HX := Lib.hid (And.intro hM hW)
  clear hM hW
  go_wp2_with fail
  refine (Sum0_any _).mono ?_
  rintro e w3 ⟨rfl, h3⟩
  rw [fin_num]
  rename_i K hK
  refine hK _ _ ?_
  clear hK K
  refine wpList_plain rfl fun K hK => ?_
  go_simp
  refine hK _ _ ?_
  clear hK K
  rw [← byC_zero 0]
  refine wpList_store_row rfl 24 (.tmp 2) (.tmp 4) rfl w3.heap.size (byC hash0 32) rfl rfl 24 (byC 0 0) (Blk.new w3 _ _) (by rw [byC_size]; kernel_rfl) (by rw [byC_size, byC_size]) (byC_one _ _) (wpList_nil ?_)
  rw [World.setRow_alloc_new]
  have hD := Blk.new w3 24 (byC hash0 32)
  have hM := (HX.out.1.keep h3).alloc (.cells (byC hash0 32) 24)
  have hW := balloc (bstep HX.out.2 h3) (.cells (byC hash0 32) 24)
  obtain ⟨w4, hw4⟩ : ∃ w4, w3.alloc (.cells (byC hash0 32) 24) = w4 := ⟨_, rfl⟩
  rw [hw4] at hD hM hW ⊢
  generalize w3.heap.size = gd at hD ⊢
  clear hw4 h3 HX
  have HX := Lib.hid (And.intro hM hW)
  have hi : (Try.prog.info? 24).map (·.size) = some (byC hash0 32).size := by rw [byC_size]; kernel_rfl
  go_upto_region 3 with fail
  refine wp_region_lit (wpList_load_mid rfl 24 (.tmp 2) rfl gd 0 rfl (byC hash0 32).toList _ hD.rangeAt und31 rfl hi ?_)
  clear hM hW hD hi
  go_wp2_with fail
  refine (rfrom_any hash0 _).mono ?_
  rintro e w5 ⟨rfl, h5⟩
  have HY := Lib.hid (And.intro (HX.out.1.keep h5) (bstep HX.out.2 h5))
  clear HX h5
  go_wp2_with fail
  refine (rtext_any hash0 _).mono ?_
  rintro e w6 ⟨rfl, h6⟩
  have hM := HY.out.1.keep h6
  have c0 : w6.cell? ⟨gm, 0, none⟩ = some (.int .u64 1) := (cell_of_row _ _ 0 _ _ _ hM).trans ((Fc_get 24 rcv 0 (by omega)).trans (by rw [uv, rv0]))
  have c1 : w6.cell? ⟨gm, 1, none⟩ = some (.int .u64 32898) := (cell_of_row _ _ 1 _ _ _ hM).trans ((Fc_get 24 rcv 1 (by omega)).trans (by rw [uv, rv1]))
  have c2 : w6.cell? ⟨gm, 23, none⟩ = some (.int .u64 9223372039002292232) := (cell_of_row _ _ 23 _ _ _ hM).trans ((Fc_get 24 rcv 23 (by omega)).trans (by rw [uv, rv23]))
  have HZ := Lib.hid (bstep HY.out.2 h6)
  clear hM HY h6
  rw [txt0]
  go_wp2_with fail
  go_ret
  exact ⟨rfl, HZ.out⟩
end Go.Proofs.Ytfknfopdinkmkaa
