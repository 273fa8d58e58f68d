/- power: Wide, the reference's too. -/
import Derived.Test.YtidpekcegocjfaaDoorEg
import Derived.Deep.MidRow
import Derived.Deep.WholeRow
namespace Go.Proofs.YtidpekcegocjfaaDoor
open Go.RowKit
attribute [local go_sem] ix0 ix1 ix2 ix3
/-- The highest of so many bytes that is none of noughts. -/
def wdG (b : Nat → Nat) : Nat → Nat
  | 0 => 0
  | m + 1 => if b m = 0 then wdG b m else m + 1
def wdN (a : Nat) : Nat := wdG (byA a) 32
theorem wdG_hit (b : Nat → Nat) (p : Nat) (hp : p < 32) (h : b (31 - p) ≠ 0) : wdG b (32 - p) = 32 - p := by
  rw [show 32 - p = (31 - p) + 1 by omega]; unfold wdG; rw [if_neg h]
theorem wdG_miss (b : Nat → Nat) (p : Nat) (hp : p < 32) (h : b (31 - p) = 0) : wdG b (32 - p) = wdG b (32 - (p + 1)) := by
  rw [show 32 - p = (31 - p) + 1 by omega, show 32 - (p + 1) = 31 - p by omega]
  show (if b (31 - p) = 0 then wdG b (31 - p) else 31 - p + 1) = _
  rw [if_pos h]
theorem byC_at (a p : Nat) (hp : p < 32) : (byC a 32)[p]? = some (.int .u8 (byA a (31 - p) : Nat)) := by rw [byC_get a 32 p hp, if_pos (by omega)]
theorem index_any {P : Program} (T e : TypeId) (n : Nat) (cs : Array Value) (k : Nat) (v : Value) (hk : k < n) (hv : cs[k]? = some v)
    (hu : P.underlying T = some (.array n e)) (hs : ∀ w, (sizeOf e).run P w = .ok 1 w) (hag : ∀ w, (isAgg e).run P w = .ok false w) (w : World) :
    (Instr.index T (.agg cs) (.int .i64 k)).run P w = .ok v w := by
  unfold Instr.index
  simp only [asIntOf, Sem.run_bind, Sem.run_pure, Result.andThen_ok, run_underlying hu]
  rw [if_pos ⟨by omega, by omega⟩]
  simp only [Sem.run_bind, hs, Result.andThen_ok]
  unfold part
  simp [hag, hv]
theorem und44 : Tryd.prog.underlying 44 = some (.array 32 5) := by kernel_rfl
theorem info44 : (Tryd.prog.info? 44).map (·.size) = some 32 := by kernel_rfl
theorem ix44 (a k : Nat) (hk : k < 32) (w : World) : (Instr.index 44 (.agg (byC a 32)) (.int .i64 k)).run Tryd.prog w = .ok (.int .u8 (byA a (31 - k) : Nat)) w :=
  index_any _ 5 32 _ k _ hk (byC_at a k hk) und44 (fun w => by kernel_rfl) (fun w => by kernel_rfl) w
theorem wpList_load_midA {P : Program} {ops : Array Oper} {rest : List Oper} {op : Oper} {a : Act} {w : World} {Q : Exit → Act → World → Prop} (hgd : op.guard = none) (ty : TypeId) (x : Operand) (ho : op.op = .load ty x)
    (b o : Nat) (hx : a.eval x = .pointer (some ⟨b, o, none⟩)) (cs : Array Value) (d : TypeDesc) (hc : w.rangeAt b o cs.toList)
    (hu : P.underlying ty = some d) (hd : d.isRow = true) (hi : (P.info? ty).map (·.size) = some cs.size)
    (h : wpList P ops Q rest (a.put op.dst (.agg cs)) w) : wpList P ops Q (op :: rest) a w :=
  wpList_load_mid hgd ty x ho b o hx cs.toList d hc hu hd (by simpa using hi) (by rwa [Array.toArray_toList])
attribute [local irreducible] lb wdG byA byC
set_option maxRecDepth 100000 in
set_option maxHeartbeats 2000000 in
theorem wide_any (a : Nat) (w : World) :
    Calls Tryd.prog 8 #[W a] w fun e w' => e = .returned (.int .i64 (wdN a : Nat)) ∧ Below w.heap.size w w' := by
  have hW := balloc (Below.refl w.heap.size w) (.cells (Wc a) 24)
  go_enter Tryd.func8, Tryd.ntmps8
  go_wp2_with fail
  refine (bytes_any a _).mono ?_
  rintro e w1 ⟨rfl, hb, h1⟩
  rename_i K hK
  refine hK _ _ ?_
  clear hK K
  refine wpList_plain rfl fun K hK => ?_
  have hAt : ∀ w', (Instr.arrayAt 44 (.slice (some ⟨w.heap.size + 1 + 1, 0, none⟩) 32 32)).run Tryd.prog w' = .ok (.pointer (some ⟨w.heap.size + 1 + 1, 0, none⟩)) w' := fun _ => by kernel_rfl
  have hb2 : Blk w1 (w.heap.size + 1 + 1) 5 (byC a 32) := by rwa [World.size_alloc] at hb
  have hW1 : Below w.heap.size w w1 := bstep hW h1
  go_simp
  refine hK _ _ ?_
  clear hK K
  refine wpList_load_midA rfl 44 (.tmp 7) rfl (w.heap.size + 1 + 1) 0 rfl (byC a 32) _ hb2.rangeAt und44 rfl (by rw [info44, byC_size]) ?_
  have HX := Lib.hid hW1
  clear hb hb2 hW1 hW h1 hAt
  go_wp2_with fail
  go_loopw [9] (fun i wr => ∃ k : Nat, k ≤ 32 ∧ i = .int .i64 (k : Int) ∧ wdN a = wdG (byA a) (32 - k) ∧ Below w.heap.size w wr) (fun i _ => 32 - (intOf i).toNat)
  case atStart => exact ⟨0, by omega, rfl, rfl, HX.out⟩
  case round =>
    clear HX
    obtain ⟨k, hk, rfl, hwd, hW⟩ := hrel
    by_cases hlt : k < 32
    · have hix := ix44 a k hlt
      have hkI : (k : Int) < 32 := by omega
      have g1 : IntKind.i64.wrap (32 - (k : Int)) = 32 - (k : Int) := IntWalk.i64_in _ (by omega)
      by_cases h0 : byA a (31 - k) = 0
      · rw [h0] at hix
        have HW := Lib.hid (And.intro (show wdN a = wdG (byA a) (32 - (k + 1)) from hwd.trans (wdG_miss _ k hlt h0)) hW)
        clear hwd hW h0
        go_wp2_with fail
        exact ⟨⟨k + 1, by omega, by go_num, HW.out⟩, by simp [intOf]; omega⟩
      · obtain ⟨v, hv⟩ : ∃ v, byA a (31 - k) = v := ⟨_, rfl⟩
        have HW := Lib.hid (And.intro (show wdN a = 32 - k from hwd.trans (wdG_hit _ k hlt h0)) hW)
        rw [hv] at hix h0
        have h0' : ((v : Int) != 0) = true := by simp; omega
        clear hwd hW hv h0
        go_wp2_with fail
        go_ret
        exact ⟨by rw [HW.out.1]; exact congrArg Ending.returned (congrArg (Value.int .i64) (show 32 - (k : Int) = ((32 - k : Nat) : Int) by omega)), HW.out.2⟩
    · obtain rfl : k = 32 := by omega
      have HW := Lib.hid (And.intro (show wdN a = 0 by rw [hwd]; unfold wdG; rfl) hW)
      clear hwd hW
      go_wp2_with fail
      go_ret
      exact ⟨by rw [HW.out.1]; rfl, HW.out.2⟩
set_option maxRecDepth 100000 in
set_option maxHeartbeats 2000000 in
theorem rwide_any (a : Nat) (w : World) :
    Calls Tryd.prog 9 #[W a] w fun e w' => e = .returned (.int .i64 (wdN a : Nat)) ∧ Below w.heap.size w w' := by
  have hW := balloc (Below.refl w.heap.size w) (.cells (Wc a) 24)
  go_enter Tryd.func9, Tryd.ntmps9
  go_wp2_with fail
  refine (rbytes_any a _).mono ?_
  rintro e w1 ⟨rfl, h1⟩
  rename_i K hK
  refine hK _ _ ?_
  clear hK K
  refine wpList_plain rfl fun K hK => ?_
  go_simp
  refine hK _ _ ?_
  clear hK K
  have z32 : byC 0 0 = #[.int .u8 0, .int .u8 0, .int .u8 0, .int .u8 0, .int .u8 0, .int .u8 0, .int .u8 0, .int .u8 0, .int .u8 0, .int .u8 0, .int .u8 0, .int .u8 0, .int .u8 0, .int .u8 0, .int .u8 0, .int .u8 0, .int .u8 0, .int .u8 0, .int .u8 0, .int .u8 0, .int .u8 0, .int .u8 0, .int .u8 0, .int .u8 0, .int .u8 0, .int .u8 0, .int .u8 0, .int .u8 0, .int .u8 0, .int .u8 0, .int .u8 0, .int .u8 0] := byC_zero 0
  rw [← z32]
  refine wpList_store_row rfl 44 (.tmp 3) (.tmp 6) rfl w1.heap.size (byC a 32) rfl rfl 44 (byC 0 0) (Blk.new w1 _ _) (by rw [info44, byC_size]) (by rw [byC_size, byC_size]) (byC_one _ _) (wpList_nil ?_)
  rw [World.setRow_alloc_new]
  have hM := Blk.new w1 44 (byC a 32)
  have hW1 := balloc (bstep hW h1) (.cells (byC a 32) 44)
  obtain ⟨w2, hw2⟩ : ∃ w2, w1.alloc (.cells (byC a 32) 44) = w2 := ⟨_, rfl⟩
  rw [hw2] at hM hW1 ⊢
  generalize w1.heap.size = gm at hM ⊢
  have HX := Lib.hid (And.intro hM hW1)
  clear hw2 hM hW1 hW h1 z32
  go_wp2_with fail
  go_loopw [4] (fun i wr => ∃ k : Nat, k ≤ 32 ∧ i = .int .i64 (k : Int) ∧ wdN a = wdG (byA a) (32 - k) ∧ Blk wr gm 44 (byC a 32) ∧ Below w.heap.size w wr) (fun i _ => 32 - (intOf i).toNat)
  case atStart => exact ⟨0, by omega, rfl, rfl, HX.out⟩
  case round =>
    clear HX
    obtain ⟨k, hk, rfl, hwd, hM, hW⟩ := hrel
    by_cases hlt : k < 32
    · have hc := (cell_of_row wr gm k _ _ _ hM).trans (byC_at a k hlt)
      have hkI : (k : Int) < 32 := by omega
      have g1 : IntKind.i64.wrap (32 - (k : Int)) = 32 - (k : Int) := IntWalk.i64_in _ (by omega)
      by_cases h0 : byA a (31 - k) = 0
      · rw [h0] at hc
        have HW := Lib.hid (And.intro (show wdN a = wdG (byA a) (32 - (k + 1)) from hwd.trans (wdG_miss _ k hlt h0)) (And.intro hM hW))
        clear hwd hW hM h0
        go_wp2_with fail
        exact ⟨⟨k + 1, by omega, by go_num, HW.out⟩, by simp [intOf]; omega⟩
      · obtain ⟨v, hv⟩ : ∃ v, byA a (31 - k) = v := ⟨_, rfl⟩
        have HW := Lib.hid (And.intro (show wdN a = 32 - k from hwd.trans (wdG_hit _ k hlt h0)) hW)
        rw [hv] at hc h0
        have h0' : ((v : Int) != 0) = true := by simp; omega
        clear hwd hW hv h0 hM
        go_wp2_with fail
        go_ret
        exact ⟨by rw [HW.out.1]; exact congrArg Ending.returned (congrArg (Value.int .i64) (show 32 - (k : Int) = ((32 - k : Nat) : Int) by omega)), HW.out.2⟩
    · obtain rfl : k = 32 := by omega
      have HW := Lib.hid (And.intro (show wdN a = 0 by rw [hwd]; unfold wdG; rfl) hW)
      clear hwd hW hM
      go_wp2_with fail
      go_ret
      exact ⟨by rw [HW.out.1]; rfl, HW.out.2⟩
end Go.Proofs.YtidpekcegocjfaaDoor
