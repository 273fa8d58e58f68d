/- digest: Turn. -/
import Derived.Test.YtfpkogklhigkfaaKg
import Derived.Deep.WholeRow
import Derived.Laws.Tables
namespace Go.Proofs.Ytfpkogklhigkfaa
open Go.RowKit
attribute [local irreducible] ln rot
theorem built26 (f : Nat → Ln) : Try.prog.built 50 [(0, .agg (Fc 25 f))] = some (Fc 26 (upd f 25 0#64)) := by kernel_rfl
theorem info25 : (Try.prog.info? 23).map (·.size) = some 25 := by kernel_rfl
theorem und25 : Try.prog.underlying 23 = some (.array 25 22) := by kernel_rfl
theorem info26 : (Try.prog.info? 50).map (·.size) = some 26 := by kernel_rfl
theorem info48 : (Try.prog.info? 48).map (·.size) = some 25 := by kernel_rfl
theorem und48 : Try.prog.underlying 48 = some (.array 25 22) := by kernel_rfl
theorem Blk.rangeFc {X : World} {g : Nat} {t : TypeId} {n : Nat} {f : Nat → Ln} (h : Blk X g t (Fc n f)) (m : Nat) (hm : m ≤ n) : X.rangeAt g 0 (Fc m f).toList := fun j v hv => by
  rw [Nat.zero_add]
  have hj : j < m := by
    have := (List.getElem?_eq_some_iff.1 hv).1
    rw [Array.length_toList, Fc_size] at this
    exact this
  have h1 := Fc_get m f j hj
  have h2 : (Fc m f)[j]? = some v := by simpa using hv
  rw [h1] at h2
  cases h2
  exact (cell_of_row X g j _ _ _ h).trans (Fc_get n f j (by omega))
theorem wpList_built {P : Program} {ops : Array Oper} {rest : List Oper} {o : Oper} {a : Act} {w : World} {Q : Exit → Act → World → Prop} (hg : o.guard = none) (t : TypeId) (parts : Array (Nat × Operand)) (ho : o.op = .build t parts)
    (cells : Array Value) (hc : P.built t (parts.map fun (i, x) => (i, a.eval x)).toList = some cells) (h : wpList P ops Q rest (a.put o.dst (.agg cells)) w) : wpList P ops Q (o :: rest) a w :=
  wpList_build hg t parts ho (by rw [hc]; rfl) (by rw [hc]; exact h)
set_option maxRecDepth 100000 in
set_option maxHeartbeats 400000 in
theorem Turn_any (hC : ∀ w : World, Calls Try.prog 8 #[] w fun e w' => e = .returned (.agg (Fc 24 rcv)) ∧ Below w.heap.size w w') (f : Nat → Ln) (w : World) :
    Calls Try.prog 9 #[.agg (Fc 25 f)] w fun e w' => e = .returned (.agg (Fc 25 (tnP (upd f 25 0#64) 24))) ∧ Below w.heap.size w w' := by
  have HC := Lib.hid hC
  clear hC
  go_enter Try.func9, Try.ntmps9
  go_upto_region 1 with fail
  have hA : Blk (w.alloc (.cells (Fc 25 f) 23)) w.heap.size 23 (Fc 25 f) := Blk.new _ _ _
  have z25 : Fc 25 (fun _ => 0#64) = #[.int .u64 0, .int .u64 0, .int .u64 0, .int .u64 0, .int .u64 0, .int .u64 0, .int .u64 0, .int .u64 0, .int .u64 0, .int .u64 0, .int .u64 0, .int .u64 0, .int .u64 0, .int .u64 0, .int .u64 0, .int .u64 0, .int .u64 0, .int .u64 0, .int .u64 0, .int .u64 0, .int .u64 0, .int .u64 0, .int .u64 0, .int .u64 0, .int .u64 0] := by kernel_rfl
  rw [← z25]
  have hA2 := hA.alloc (.cells (Fc 25 (fun _ => 0#64)) 23)
  have hR := Blk.newS w (.cells (Fc 25 f) 23) 23 (Fc 25 (fun _ => 0#64))
  have hW := balloc (balloc (Below.refl _ w) (.cells (Fc 25 f) 23)) (.cells (Fc 25 (fun _ => 0#64)) 23)
  obtain ⟨w1, hw1⟩ : ∃ w1, (w.alloc (.cells (Fc 25 f) 23)).alloc (.cells (Fc 25 (fun _ => 0#64)) 23) = w1 := ⟨_, rfl⟩
  rw [hw1] at hA2 hR hW ⊢
  have hl := hR.lt
  clear hw1 hA z25
  refine wp_region_lit (wpList_load_mid rfl 23 (.tmp 1) rfl w.heap.size 0 rfl (Fc 25 f).toList _ hA2.rangeAt und25 rfl (by rw [info25]; show some 25 = some (Fc 25 f).size; rw [Fc_size]) ?_)
  rw [Array.toArray_toList]
  refine wpList_built rfl 50 #[(0, .tmp 4)] rfl (Fc 26 (upd f 25 0#64)) (by simp only [List.map_toArray, List.map_cons, List.map_nil]; exact built26 f) ?_
  refine wpList_plain rfl fun K hK => ?_
  go_simp
  refine hK _ _ ?_
  clear hK K
  have z26 : Fc 26 (fun _ => 0#64) = #[.int .u64 0, .int .u64 0, .int .u64 0, .int .u64 0, .int .u64 0, .int .u64 0, .int .u64 0, .int .u64 0, .int .u64 0, .int .u64 0, .int .u64 0, .int .u64 0, .int .u64 0, .int .u64 0, .int .u64 0, .int .u64 0, .int .u64 0, .int .u64 0, .int .u64 0, .int .u64 0, .int .u64 0, .int .u64 0, .int .u64 0, .int .u64 0, .int .u64 0, .int .u64 0] := by kernel_rfl
  rw [← z26]
  clear z26
  refine wpList_store_row rfl 50 (.tmp 3) (.tmp 5) rfl w1.heap.size (Fc 26 (upd f 25 0#64)) rfl rfl 50 (Fc 26 (fun _ => 0#64)) (Blk.new w1 _ _) (by rw [info26, Fc_size]) (by rw [Fc_size, Fc_size]) (Fc_one _ _) (wpList_nil ?_)
  rw [World.setRow_alloc_new]
  have hU := Blk.new w1 50 (Fc 26 (upd f 25 0#64))
  have hR2 := hR.alloc (.cells (Fc 26 (upd f 25 0#64)) 50)
  have hW2 := balloc hW (.cells (Fc 26 (upd f 25 0#64)) 50)
  obtain ⟨w2, hw2⟩ : ∃ w2, w1.alloc (.cells (Fc 26 (upd f 25 0#64)) 50) = w2 := ⟨_, rfl⟩
  rw [hw2] at hU hR2 hW2 ⊢
  generalize w1.heap.size = gu at hU hl ⊢
  have HX := Lib.hid (And.intro hU (And.intro hR2 (And.intro hW2 hl)))
  clear hU hR2 hW2 hR hW hA2 hw2 hl
  go_wp2_with fail
  refine (HC.out _).mono ?_
  rintro e w3 ⟨rfl, h3⟩
  obtain ⟨hU, hR, hW, hl⟩ := HX.out
  have HY := Lib.hid (And.intro (hU.keep h3) (And.intro (hR.keep h3) (And.intro (bstep hW h3) hl)))
  clear hU hR hW hl HX h3
  go_wp2_with fail
  refine (turn_any gu _ _ HY.out.1).mono ?_
  rintro e w4 ⟨rfl, hU, hG⟩
  obtain ⟨_, hR, hW, hl⟩ := HY.out
  have HX := Lib.hid (And.intro hU (And.intro (hR.kept hG (fun e => by injection e; omega)) (step_world hW hG (Nat.le_refl _) (by omega))))
  clear hU hR hW hl HY hG
  go_upto_region 3 with fail
  obtain ⟨hU, hR, hW⟩ := HX.out
  clear HX HC
  obtain ⟨res, hres⟩ : ∃ res, tnP (upd f 25 0#64) 24 = res := ⟨_, rfl⟩
  rw [hres] at hU
  have HR := Lib.hid hres
  clear hres
  have hi : (Try.prog.info? 23).map (·.size) = some (Fc 25 res).size := by rw [info25, Fc_size]
  have hi2 : (Try.prog.info? 48).map (·.size) = some (Fc 25 res).toList.length := by rw [info48, Array.length_toList, Fc_size]
  refine wp_region_lit (wpList_plain rfl fun K hK => ?_)
  go_simp
  refine hK _ _ ?_
  clear hK K
  refine wpList_load_mid rfl 48 (.tmp 8) rfl gu 0 rfl (Fc 25 res).toList _ (hU.rangeFc 25 (by omega)) und48 rfl hi2 ?_
  have ht : w4.there (w.heap.size + 1) 0 (Fc 25 res).size := hR.there _ (by rw [Fc_size, Fc_size]; exact Nat.le_refl _)
  refine wpList_store_mid rfl 23 (.tmp 2) (.tmp 9) rfl (w.heap.size + 1) 0 (Fc 25 res) rfl rfl ht hi (Fc_one _ _) (wpList_nil ?_)
  have hr : (loadVar 23 ⟨w.heap.size + 1, 0, none⟩).run Try.prog (w4.setCells (w.heap.size + 1) 0 (Fc 25 res).toList) = .ok (.agg (Fc 25 res)) (w4.setCells (w.heap.size + 1) 0 (Fc 25 res).toList) :=
    run_loadVar_mid _ _ _ _ (Fc 25 res).toList _ (World.rangeAt_setCells_same _ _ _ _ ht) und25 rfl hi
  have hB' := below_setCells' (B := w.heap.size) (b := w.heap.size + 1) (by omega) (Fc 25 res).toList 0 w4 hW
  clear ht hi hi2 hR hU hW
  generalize w4.setCells (w.heap.size + 1) 0 (Fc 25 res).toList = wz at *
  go_wp2_with fail
  exact bodyPost_ret (v := .agg (Fc 25 res)) (by simp [results, Try.results9, Act.put, asAddr, hr]) rfl ⟨by rw [HR.out], hB'⟩
end Go.Proofs.Ytfpkogklhigkfaa
