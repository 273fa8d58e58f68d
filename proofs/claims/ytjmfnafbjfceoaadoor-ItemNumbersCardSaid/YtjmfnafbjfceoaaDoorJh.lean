/- item: attempt of an item: where it returns, where it gives up. -/
import Derived.Test.YtjmfnafbjfceoaaDoorJg
namespace Go.Proofs.YtjmfnafbjfceoaaDoor
open Go.RowKit Go.Shelf
attribute [local irreducible] lb wdG byA byC heL nuL
theorem catchi_idle (p : Addr) (w : World) :
    CallsD Tryd.prog 55 #[.pointer (some p)] .returning w fun e u' w' => e = .returned (.tuple #[]) ∧ u' = .returning ∧ w' = w := by
  refine callsD_of_wpS Tryd.func55 rfl fun c₀ cs hu => ?_
  apply wpS_seq
  apply wpS_region
  simp [wpOpsS, go_sem, recoverD, hu, Tryd.ntmps55, Exit.thenS]
  rw [show (#[Value.pointer (some p)] ++ ((Array.replicate 15 undef).setIfInBounds 3 .nilIface).setIfInBounds 0 .nilIface : Array Value) = #[.pointer (some p), .nilIface, undef, undef, .nilIface, undef, undef, undef, undef, undef, undef, undef, undef, undef, undef, undef] from rfl]
  refine wpS_of_wp ?_
  go_wp2_with fail
  cases c₀
  simp_all [bodyPostS, results, Tryd.results55]

set_option maxRecDepth 100000 in
set_option maxHeartbeats 2000000 in
theorem catchi_errno (p : Addr) (x k : Int) (older : List PanicEntry) (w : World) (hc : w.cell? p = some (.int .i64 x)) (hz : w.frozen? p = false) :
    CallsD Tryd.prog 55 #[.pointer (some p)] (.panicking ({ v := .iface 28 (.int .i64 k), recovered := false } :: older)) w fun e u' w' =>
      e = .returned (.tuple #[]) ∧ u' = .panicking ({ v := .iface 28 (.int .i64 k), recovered := true } :: older) ∧ w' = w.setCell p (.int .i64 k) := by
  refine callsD_of_wpS Tryd.func55 rfl fun c₀ cs hu => ?_
  apply wpS_seq
  apply wpS_region
  simp [wpOpsS, go_sem, recoverD, hu, Tryd.ntmps55, Exit.thenS]
  rw [show (#[Value.pointer (some p)] ++ ((Array.replicate 15 undef).setIfInBounds 3 (.iface 28 (.int .i64 k))).setIfInBounds 0 (.iface 28 (.int .i64 k)) : Array Value) = #[.pointer (some p), .iface 28 (.int .i64 k), undef, undef, .iface 28 (.int .i64 k), undef, undef, undef, undef, undef, undef, undef, undef, undef, undef, undef] from rfl]
  refine wpS_of_wp ?_
  have hta : ∀ w, (Instr.typeAssert (.iface 28 (.int .i64 k)) 20 28 true).run Tryd.prog w = .ok (.tuple #[.int .i64 k, .bool true]) w := fun w => by kernel_rfl
  go_wp2_with fail
  simp [bodyPostS, results, Tryd.results55]

set_option maxRecDepth 100000 in
set_option maxHeartbeats 2000000 in
theorem attempti_ret (R : Nat) (w : World) (hRl : R < w.heap.size) (Pv : Value → World → Prop)
    (hF : ∀ wr, Below w.heap.size w wr → w.heap.size + 2 ≤ wr.heap.size → Calls Tryd.prog 35 #[.pointer (some ⟨R, 0, none⟩)] wr fun e w' => ∃ b x m c y n d, e = .returned (itW b x m c y n d) ∧ Pv (itW b x m c y n d) w' ∧ wr.grownBy w' (some R))
    (hP : ∀ v X Y g, Pv v X → X.grownBy Y (some g) → (g = w.heap.size ∨ g = w.heap.size + 1) → Pv v Y) :
    Calls Tryd.prog 34 #[.func (.func 35) #[] #[.pointer (some ⟨R, 0, none⟩)]] w fun e w' => ∃ b x m c y n d, e = .returned (.tuple #[itW b x m c y n d, .int .i64 0]) ∧ Pv (itW b x m c y n d) w' ∧ w.grownBy w' (some R) := by
  have hmf : ∀ (fn : Fn) (first cap : Array Value) (w : World), (Instr.makeFunc fn first cap).run Tryd.prog w = .ok (.func fn first cap) w := fun _ _ _ _ => rfl
  have hI0 := (Blk.new w 25 #[.bool false, .slice none 0 0, .slice none 0 0]).alloc (.cells #[.int .i64 0] 28)
  have hE0 := Blk.newS w (.cells #[.bool false, .slice none 0 0, .slice none 0 0] 25) 28 #[.int .i64 0]
  have hW := balloc (balloc (Below.refl w.heap.size w) (.cells #[.bool false, .slice none 0 0, .slice none 0 0] 25)) (.cells #[.int .i64 0] 28)
  have hC := Lib.hid (hF _ hW (by simp))
  have HX := Lib.hid (And.intro hI0 (And.intro hE0 hW))
  clear hF hI0 hE0 hW
  go_enter_defers Tryd.func34, Tryd.ntmps34
  go_wp2_with fail
  refine hC.out.mono ?_
  rintro e w1 ⟨b, x, m, c, y, n, d, rfl, hp, hg⟩
  have hI1 := HX.out.1.kept hg (fun e => by injection e; omega)
  have hE1 := HX.out.2.1.kept hg (fun e => by injection e; omega)
  have i0 := cell_of_row w1 _ 0 _ _ _ hI1
  have i1 := cell_of_row w1 _ 1 _ _ _ hI1
  have i2 := cell_of_row w1 _ 2 _ _ _ hI1
  have f0 := frozen_of_row w1 _ 0 _ _ hI1
  have f1 := frozen_of_row w1 _ 1 _ _ hI1
  have f2 := frozen_of_row w1 _ 2 _ _ hI1
  have e0 := cell_of_row w1 _ 0 _ _ _ hE1
  have fe := frozen_of_row w1 _ 0 _ _ hE1
  have hG1 := grown_set' (grown_set' (grown_set' (grown_refl w1 w.heap.size) 0 (.bool b)) 1 (.slice x m c)) 2 (.slice y n d)
  have hp1 := hP _ _ _ _ hp hG1 (.inl rfl)
  have hG2 := grown_set' (grown_refl (((w1.setCell ⟨w.heap.size, 0, none⟩ (.bool b)).setCell ⟨w.heap.size, 1, none⟩ (.slice x m c)).setCell ⟨w.heap.size, 2, none⟩ (.slice y n d)) (w.heap.size + 1)) 0 (.int .i64 0)
  have hp2 := hP _ _ _ _ hp1 hG2 (.inr rfl)
  have hgw := grown_above (grown_above (grown_then' (grown_of R HX.out.2.2) ⟨hg.os, hg.tape, hg.output, hg.size, hg.block⟩) hG1 (Nat.le_refl _)) hG2 (by omega)
  have HF := Lib.hid (And.intro hp2 hgw)
  clear hp hp1 hp2 hgw hG1 hG2 hI1 hE1 hg hP HX hC
  go_wp2_with fail
  refine leaves_cons (f := 55) (args := #[.pointer (some ⟨w.heap.size + 1, 0, none⟩)]) (by simp) (by simp [go_sem]) ?_
  refine (catchi_idle ⟨w.heap.size + 1, 0, none⟩ _).mono ?_
  rintro e u' w'' ⟨rfl, rfl, rfl⟩
  refine ⟨.tuple #[itW b x m c y n d, .int .i64 0], ?_, _, _, _, _, _, _, _, rfl, HF.out⟩
  simp [results, Tryd.results34, go_sem, i0, i1, i2, e0]

set_option maxRecDepth 100000 in
set_option maxHeartbeats 2000000 in
theorem attempti_gives (R : Nat) (k : Int) (w : World) (hRl : R < w.heap.size)
    (hF : ∀ wr, Below w.heap.size w wr → w.heap.size + 2 ≤ wr.heap.size → Calls Tryd.prog 35 #[.pointer (some ⟨R, 0, none⟩)] wr fun e w' => e = .panicked [{ v := .iface 28 (.int .i64 k), recovered := false }] ∧ wr.grownBy w' (some R)) :
    Calls Tryd.prog 34 #[.func (.func 35) #[] #[.pointer (some ⟨R, 0, none⟩)]] w fun e w' => e = .returned (.tuple #[itW false none 0 0 none 0 0, .int .i64 k]) ∧ w.grownBy w' (some R) := by
  have hmf : ∀ (fn : Fn) (first cap : Array Value) (w : World), (Instr.makeFunc fn first cap).run Tryd.prog w = .ok (.func fn first cap) w := fun _ _ _ _ => rfl
  have hI0 := (Blk.new w 25 #[.bool false, .slice none 0 0, .slice none 0 0]).alloc (.cells #[.int .i64 0] 28)
  have hE0 := Blk.newS w (.cells #[.bool false, .slice none 0 0, .slice none 0 0] 25) 28 #[.int .i64 0]
  have hW := balloc (balloc (Below.refl w.heap.size w) (.cells #[.bool false, .slice none 0 0, .slice none 0 0] 25)) (.cells #[.int .i64 0] 28)
  have hC := Lib.hid (hF _ hW (by simp))
  have HX := Lib.hid (And.intro hI0 (And.intro hE0 hW))
  clear hF hI0 hE0 hW
  go_enter_defers Tryd.func34, Tryd.ntmps34
  go_wp2_with fail
  refine hC.out.mono ?_
  rintro e w1 ⟨rfl, hg⟩
  have hI1 := HX.out.1.kept hg (fun e => by injection e; omega)
  have hE1 := HX.out.2.1.kept hg (fun e => by injection e; omega)
  have i0 := cell_of_row w1 _ 0 _ _ _ hI1
  have i1 := cell_of_row w1 _ 1 _ _ _ hI1
  have i2 := cell_of_row w1 _ 2 _ _ _ hI1
  have e0 : w1.cell? ⟨w.heap.size + 1, 0, none⟩ = some (.int .i64 0) := cell_of_row w1 _ 0 _ _ _ hE1
  have fe := frozen_of_row w1 _ 0 _ _ hE1
  have hG2 := grown_set' (grown_refl w1 (w.heap.size + 1)) 0 (.int .i64 k)
  have hgw := grown_above (grown_then' (grown_of R HX.out.2.2) ⟨hg.os, hg.tape, hg.output, hg.size, hg.block⟩) hG2 (by omega)
  have HF := Lib.hid hgw
  clear hgw hG2 hI1 hE1 hg HX hC
  refine leaves_cons (f := 55) (args := #[.pointer (some ⟨w.heap.size + 1, 0, none⟩)]) (by simp) (by simp [go_sem]) ?_
  refine (catchi_errno ⟨w.heap.size + 1, 0, none⟩ 0 k [] _ e0 fe).mono ?_
  rintro e u' w'' ⟨rfl, rfl, rfl⟩
  refine ⟨.tuple #[itW false none 0 0 none 0 0, .int .i64 k], ?_, rfl, HF.out⟩
  simp [results, Tryd.results34, go_sem, i0, i1, i2, e0]
end Go.Proofs.YtjmfnafbjfceoaaDoor
