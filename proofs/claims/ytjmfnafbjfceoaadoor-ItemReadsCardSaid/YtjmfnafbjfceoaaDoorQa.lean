/- Texts laid into one: Qa. -/
import Derived.Test.YtjmfnafbjfceoaaDoorHd
import Derived.Test.YtjmfnafbjfceoaaDoorWy
import Derived.Deep.MidRow
import Derived.Deep.WholeRow
import Derived.Laws.AppendOwn
import Derived.Defers
import Derived.Recover
import Derived.WalkLawsBesides
import Derived.Deep.Onto
/- item: the reference's Wide (as in XEh), the heads' table, kindUnder. -/
namespace Go.Proofs.YtjmfnafbjfceoaaDoor
open Go.RowKit
attribute [local go_sem] ix0 ix1 ix2 ix3
/-- The highest of so many bytes that is none of noughts. -/
def wdG (b : Nat → Nat) : Nat → Nat
  | 0 => 0
  | m + 1 => if b m = 0 then wdG b m else m + 1
def wdN (a : Nat) : Nat := wdG (byA a) 32
theorem wdG_hit (b : Nat → Nat) (p : Nat) (hp : p < 32) (h : b (31 - p) ≠ 0) : wdG b (32 - p) = 32 - p := by
  rw [show 32 - p = (31 - p) + 1 by omega]; unfold wdG; rw [if_neg h]
theorem wdG_miss (b : Nat → Nat) (p : Nat) (hp : p < 32) (h : b (31 - p) = 0) : wdG b (32 - p) = wdG b (32 - (p + 1)) := by
  rw [show 32 - p = (31 - p) + 1 by omega, show 32 - (p + 1) = 31 - p by omega]
  show (if b (31 - p) = 0 then wdG b (31 - p) else 31 - p + 1) = _
  rw [if_pos h]
theorem byC_at (a p : Nat) (hp : p < 32) : (byC a 32)[p]? = some (.int .u8 (byA a (31 - p) : Nat)) := by rw [byC_get a 32 p hp, if_pos (by omega)]
theorem und44 : Tryd.prog.underlying 81 = some (.array 32 5) := by kernel_rfl
theorem info44 : (Tryd.prog.info? 81).map (·.size) = some 32 := by kernel_rfl
theorem ix44 (a k : Nat) (hk : k < 32) (w : World) : (Instr.index 81 (.agg (byC a 32)) (.int .i64 k)).run Tryd.prog w = .ok (.int .u8 (byA a (31 - k) : Nat)) w :=
  index_any _ 5 32 _ k _ hk (byC_at a k hk) und44 (fun w => by kernel_rfl) (fun w => by kernel_rfl) w
theorem wpList_load_midA {P : Program} {ops : Array Oper} {rest : List Oper} {op : Oper} {a : Act} {w : World} {Q : Exit → Act → World → Prop} (hgd : op.guard = none) (ty : TypeId) (x : Operand) (ho : op.op = .load ty x)
    (b o : Nat) (hx : a.eval x = .pointer (some ⟨b, o, none⟩)) (cs : Array Value) (d : TypeDesc) (hc : w.rangeAt b o cs.toList)
    (hu : P.underlying ty = some d) (hd : d.isRow = true) (hi : (P.info? ty).map (·.size) = some cs.size)
    (h : wpList P ops Q rest (a.put op.dst (.agg cs)) w) : wpList P ops Q (op :: rest) a w :=
  wpList_load_mid hgd ty x ho b o hx cs.toList d hc hu hd (by simpa using hi) (by rwa [Array.toArray_toList])
attribute [local irreducible] lb wdG byA byC
set_option maxRecDepth 100000 in
set_option maxHeartbeats 2000000 in
theorem rwide_any (a : Nat) (w : World) :
    Calls Tryd.prog 45 #[W a] w fun e w' => e = .returned (.int .i64 (wdN a : Nat)) ∧ Below w.heap.size w w' := by
  have hW := balloc (Below.refl w.heap.size w) (.cells (Wc a) 47)
  go_enter Tryd.func45, Tryd.ntmps45
  go_wp2_with fail
  refine (rbytes_any a _).mono ?_
  rintro e w1 ⟨rfl, h1⟩
  rename_i K hK
  refine hK _ _ ?_
  clear hK K
  refine wpList_plain rfl fun K hK => ?_
  go_simp
  refine hK _ _ ?_
  clear hK K
  have z32 : byC 0 0 = #[.int .u8 0, .int .u8 0, .int .u8 0, .int .u8 0, .int .u8 0, .int .u8 0, .int .u8 0, .int .u8 0, .int .u8 0, .int .u8 0, .int .u8 0, .int .u8 0, .int .u8 0, .int .u8 0, .int .u8 0, .int .u8 0, .int .u8 0, .int .u8 0, .int .u8 0, .int .u8 0, .int .u8 0, .int .u8 0, .int .u8 0, .int .u8 0, .int .u8 0, .int .u8 0, .int .u8 0, .int .u8 0, .int .u8 0, .int .u8 0, .int .u8 0, .int .u8 0] := byC_zero 0
  rw [← z32]
  refine wpList_store_row rfl 81 (.tmp 3) (.tmp 6) rfl w1.heap.size (byC a 32) rfl rfl 81 (byC 0 0) (Blk.new w1 _ _) (by rw [info44, byC_size]) (by rw [byC_size, byC_size]) (byC_one _ _) (wpList_nil ?_)
  rw [World.setRow_alloc_new]
  have hM := Blk.new w1 81 (byC a 32)
  have hW1 := balloc (bstep hW h1) (.cells (byC a 32) 81)
  obtain ⟨w2, hw2⟩ : ∃ w2, w1.alloc (.cells (byC a 32) 81) = w2 := ⟨_, rfl⟩
  rw [hw2] at hM hW1 ⊢
  generalize w1.heap.size = gm at hM ⊢
  have HX := Lib.hid (And.intro hM hW1)
  clear hw2 hM hW1 hW h1 z32
  go_wp2_with fail
  go_loopw [4] (fun i wr => ∃ k : Nat, k ≤ 32 ∧ i = .int .i64 (k : Int) ∧ wdN a = wdG (byA a) (32 - k) ∧ Blk wr gm 81 (byC a 32) ∧ Below w.heap.size w wr) (fun i _ => 32 - (intOf i).toNat)
  case atStart => exact ⟨0, by omega, rfl, rfl, HX.out⟩
  case round =>
    clear HX
    obtain ⟨k, hk, rfl, hwd, hM, hW⟩ := hrel
    by_cases hlt : k < 32
    · have hc := (cell_of_row wr gm k _ _ _ hM).trans (byC_at a k hlt)
      have hkI : (k : Int) < 32 := by omega
      have g1 : IntKind.i64.wrap (32 - (k : Int)) = 32 - (k : Int) := IntWalk.i64_in _ (by omega)
      by_cases h0 : byA a (31 - k) = 0
      · rw [h0] at hc
        have HW := Lib.hid (And.intro (show wdN a = wdG (byA a) (32 - (k + 1)) from hwd.trans (wdG_miss _ k hlt h0)) (And.intro hM hW))
        clear hwd hW hM h0
        go_wp2_with fail
        exact ⟨⟨k + 1, by omega, by go_num, HW.out⟩, by simp [intOf]; omega⟩
      · obtain ⟨v, hv⟩ : ∃ v, byA a (31 - k) = v := ⟨_, rfl⟩
        have HW := Lib.hid (And.intro (show wdN a = 32 - k from hwd.trans (wdG_hit _ k hlt h0)) hW)
        rw [hv] at hc h0
        have h0' : ((v : Int) != 0) = true := by simp; omega
        clear hwd hW hv h0 hM
        go_wp2_with fail
        go_ret
        exact ⟨by rw [HW.out.1]; exact congrArg Ending.returned (congrArg (Value.int .i64) (show 32 - (k : Int) = ((32 - k : Nat) : Int) by omega)), HW.out.2⟩
    · obtain rfl : k = 32 := by omega
      have HW := Lib.hid (And.intro (show wdN a = 0 by rw [hwd]; unfold wdG; rfl) hW)
      clear hwd hW hM
      go_wp2_with fail
      go_ret
      exact ⟨by rw [HW.out.1]; rfl, HW.out.2⟩

/-- The table of heads lies as it is laid. -/
def hdN (k : Nat) : Nat := if k = 0 then 0 else if k = 1 then 128 else 192
def HD (w : World) : Prop := ∀ j, j < 3 → w.cell? ⟨0, j, none⟩ = some (.int .u8 (hdN j : Nat))
theorem HD.lt {w : World} (h : HD w) : 0 < w.heap.size := by
  have h0 := h 0 (by omega)
  refine Classical.byContradiction fun hc => ?_
  have e : w.heap[0]? = none := Array.getElem?_eq_none (by omega)
  simp [World.cell?, e] at h0
theorem HD.below {w X : World} {m : Nat} (h : HD w) (hm : 0 < m) (k : Below m w X) : HD X := fun j hj => (k.cell (p := ⟨0, j, none⟩) hm).trans (h j hj)
theorem HD.keep {w X : World} (h : HD w) (k : Below w.heap.size w X) : HD X := h.below h.lt k

/-- Of what kind the item is that begins with a byte. -/
def kdN (b : Nat) : Nat := if b < 128 then 0 else if b < 192 then 1 else 2
set_option maxRecDepth 100000 in
set_option maxHeartbeats 1000000 in
theorem kindUnder_any (b : Nat) (hb : b < 256) (w : World) (hH : HD w) :
    Calls Tryd.prog 57 #[.int .u8 b] w fun e w' => e = .returned (.int .i64 (kdN b : Nat)) ∧ w = w' := by
  have c0 := hH 0 (by omega)
  have c1 := hH 1 (by omega)
  have c2 := hH 2 (by omega)
  rw [show hdN 0 = 0 from rfl] at c0
  rw [show hdN 1 = 128 from rfl] at c1
  rw [show hdN 2 = 192 from rfl] at c2
  clear hH
  go_enter Tryd.func57, Tryd.ntmps57
  by_cases h1 : b < 128
  · have g1 : (b : Int) < 128 := by omega
    have g2 : (b : Int) < 192 := by omega
    have g0 : ¬ (b : Int) < 0 := by omega
    rw [show kdN b = 0 by unfold kdN; rw [if_pos h1]]
    clear h1
    go_wp2_with fail
    refine wp_loop_rounds 3 ?_
    iterate 3 (rw [rounds_succ]; go_wp2_with fail)
    go_ret
    exact ⟨rfl, rfl⟩
  · by_cases h2 : b < 192
    · have g1 : ¬ (b : Int) < 128 := by omega
      have g2 : (b : Int) < 192 := by omega
      rw [show kdN b = 1 by unfold kdN; rw [if_neg h1, if_pos h2]]
      clear h1 h2
      go_wp2_with fail
      refine wp_loop_rounds 2 ?_
      iterate 2 (rw [rounds_succ]; go_wp2_with fail)
      go_ret
      exact ⟨rfl, rfl⟩
    · have g2 : ¬ (b : Int) < 192 := by omega
      rw [show kdN b = 2 by unfold kdN; rw [if_neg h1, if_neg h2]]
      clear h1 h2
      go_wp2_with fail
      refine wp_loop_rounds 1 ?_
      iterate 1 (rw [rounds_succ]; go_wp2_with fail)
      go_ret
      exact ⟨rfl, rfl⟩
end Go.Proofs.YtjmfnafbjfceoaaDoor

/- item: bytes.TrimLeft of a word's bytes, Number. -/
namespace Go.Proofs.YtjmfnafbjfceoaaDoor
open Go.RowKit
attribute [local irreducible] lb wdG byA byC
theorem cutFrom1 (x : Option Addr) (m c : Nat) (hk : 1 ≤ m) (w : World) : (Instr.slice 22 (.slice x m c) (some (.int .i64 1)) none none).run Tryd.prog w = .ok (sliced x 1 m c 1) w := by
  have h := run_slice_l (P := Tryd.prog) (w := w) (t := 22) (a := x) (len := m) (cap := c) (ht := by kernel_rfl) .i64 (1 : Int) (by omega) (by omega)
  rw [h, show Tryd.prog.elem 22 = 5 by kernel_rfl, show (sizeOf 5).run Tryd.prog w = .ok 1 w by kernel_rfl]
  rfl

/-- What is left of a word's bytes without the noughts ahead. -/
def nbV (B m : Nat) : Value := if m = 0 then .slice none 0 0 else .slice (some ⟨B, 32 - m, none⟩) m m

theorem nbV_is (B m : Nat) : ∃ x n c, nbV B m = .slice x n c := by
  unfold nbV
  by_cases h : m = 0
  · rw [if_pos h]; exact ⟨_, _, _, rfl⟩
  · rw [if_neg h]; exact ⟨_, _, _, rfl⟩
set_option maxRecDepth 100000 in
set_option maxHeartbeats 2000000 in
theorem trim32 (a B : Nat) (w : World) (hB : Blk w B 5 (byC a 32)) :
    Calls Tryd.prog 60 #[.slice (some ⟨B, 0, none⟩) 32 32, .int .u8 0] w fun e w' => e = .returned (nbV B (wdN a)) ∧ w = w' := by
  go_enter Tryd.func60, Tryd.ntmps60
  go_wp2_with fail
  go_loopw [0] (fun v wr => ∃ k o : Nat, k ≤ 32 ∧ (k < 32 → o = k) ∧ v = .slice (some ⟨B, o, none⟩) (32 - k) (32 - k) ∧ wdN a = wdG (byA a) (32 - k) ∧ w = wr) (fun v _ => match v with | .slice _ n _ => n | _ => 0)
  case atStart => exact ⟨0, 0, by omega, fun _ => rfl, rfl, rfl, rfl⟩
  case round =>
    obtain ⟨k, o, hk, ho, rfl, hwd, rfl⟩ := hrel
    by_cases hlt : k < 32
    · obtain rfl := ho hlt
      have hc := (cell_of_row w B o _ _ _ hB).trans (byC_at a o hlt)
      have g0 : (0 : Int) < ((32 - o : Nat) : Int) := by omega
      by_cases h0 : byA a (31 - o) = 0
      · rw [h0] at hc
        have hct := cutFrom1 (some ⟨B, o, none⟩) (32 - o) (32 - o) (by omega)
        obtain ⟨y, l2, c2, hsd⟩ : ∃ y l2 c2, sliced (some ⟨B, o, none⟩) 1 (32 - o) (32 - o) 1 = .slice y l2 c2 := ⟨_, _, _, rfl⟩
        have hy : l2 = 32 - (o + 1) ∧ c2 = 32 - (o + 1) ∧ ∃ o2, y = some ⟨B, o2, none⟩ ∧ (o + 1 < 32 → o2 = o + 1) := by
          unfold sliced at hsd
          injection hsd with e1 e2 e3
          refine ⟨by omega, by omega, ?_⟩
          rw [← e1]
          by_cases h : 32 - o = 1
          · rw [if_pos h]; exact ⟨o, rfl, fun h2 => by omega⟩
          · rw [if_neg h]; exact ⟨o + 1, rfl, fun _ => rfl⟩
        obtain ⟨rfl, rfl, o2, rfl, ho2⟩ := hy
        rw [hsd] at hct
        have HW := Lib.hid (And.intro (show wdN a = wdG (byA a) (32 - (o + 1)) from hwd.trans (wdG_miss _ o hlt h0)) ho2)
        have hlo : 32 - (o + 1) < 32 - o := by omega
        clear hwd h0 hsd ho hB
        obtain ⟨m, hm⟩ : ∃ m, 32 - o = m := ⟨_, rfl⟩
        obtain ⟨m2, hm2⟩ : ∃ m2, 32 - (o + 1) = m2 := ⟨_, rfl⟩
        have HM := Lib.hid hm
        have HM2 := Lib.hid hm2
        rw [hm] at g0 hct hlo ⊢
        rw [hm2] at hct hlo
        clear hm hm2
        go_wp2_with fail
        exact ⟨⟨o + 1, o2, by omega, HW.out.2, by rw [HM2.out], HW.out.1, trivial⟩, hlo⟩
      · obtain ⟨v, hv⟩ : ∃ v, byA a (31 - o) = v := ⟨_, rfl⟩
        have hwd' : wdN a = 32 - o := hwd.trans (wdG_hit _ o hlt h0)
        have hz : nbV B (wdN a) = .slice (some ⟨B, o, none⟩) (32 - o) (32 - o) := by
          rw [hwd']; unfold nbV; rw [if_neg (by omega), show 32 - (32 - o) = o by omega]
        rw [hv] at hc h0
        have h0' : ((v : Int) == 0) = false := by simp; omega
        have g1 : (((32 - o : Nat) : Int) == 0) = false := by simp; omega
        clear hwd hwd' hv h0 ho hB
        obtain ⟨m, hm⟩ : ∃ m, 32 - o = m := ⟨_, rfl⟩
        rw [hm] at g0 g1 hz ⊢
        have HZ := Lib.hid hz
        clear hm hz
        go_wp2_with fail
        go_ret
        exact ⟨by rw [HZ.out]; rfl, rfl⟩
    · obtain rfl : k = 32 := by omega
      have hz : nbV B (wdN a) = .slice none 0 0 := by rw [hwd]; unfold nbV wdG; rfl
      have HZ := Lib.hid hz
      clear hwd hz ho hB
      go_wp2_with fail
      go_ret
      exact ⟨by rw [HZ.out]; rfl, rfl⟩

set_option maxRecDepth 100000 in
set_option maxHeartbeats 2000000 in
theorem trimLeft32 (a B : Nat) (w : World) (hB : Blk w B 5 (byC a 32)) :
    Calls Tryd.prog 39 #[.slice (some ⟨B, 0, none⟩) 32 32, .string ⟨#[0]⟩] w fun e w' => e = .returned (nbV B (wdN a)) ∧ Below w.heap.size w w' := by
  go_enter Tryd.func39, Tryd.ntmps39
  have hT := Lib.hid (trim32 a B)
  go_wp2_with (refine (hT.out _ (by assumption)).mono ?_; rintro e w1 ⟨rfl, rfl⟩)
  go_ret
  exact ⟨rfl, Below.refl _ _⟩

/-- A word's item in memory: the slice of its bytes. -/
abbrev itB (v : Value) : Value := .agg #[.bool false, v, .slice none 0 0]
set_option maxRecDepth 100000 in
set_option maxHeartbeats 2000000 in
theorem number_any (a : Nat) (w : World) :
    Calls Tryd.prog 19 #[W a] w fun e w' => ∃ B, e = .returned (itB (nbV B (wdN a))) ∧ Blk w' B 5 (byC a 32) ∧ w.heap.size ≤ B ∧ Below w.heap.size w w' := by
  have hW := balloc (balloc (Below.refl w.heap.size w) (.cells (Wc a) 47)) (.cells #[.bool false, .slice none 0 0, .slice none 0 0] 25)
  go_enter Tryd.func19, Tryd.ntmps19
  go_wp2_with fail
  refine (bytes_any a _).mono ?_
  rintro e w1 ⟨rfl, hb, h1⟩
  have hI : Blk w1 (w.heap.size + 1) 25 #[.bool false, .slice none 0 0, .slice none 0 0] := by
    have h0 := Blk.new (w.alloc (.cells (Wc a) 47)) 25 #[.bool false, .slice none 0 0, .slice none 0 0]
    rw [World.size_alloc] at h0
    exact h0.keep h1
  have h2 := bstep hW h1
  rw [World.size_alloc, World.size_alloc] at hb
  have hBw : w.heap.size ≤ w.heap.size + 1 + 1 + 1 := by omega
  have hne : w.heap.size + 1 + 1 + 1 ≠ w.heap.size + 1 := by omega
  rw [World.size_alloc, World.size_alloc]
  generalize w.heap.size + 1 + 1 + 1 = B at hb hBw hne ⊢
  rename_i K hK
  refine hK _ _ ?_
  clear hK K h1 hW
  refine wpList_plain rfl fun K hK => ?_
  go_simp
  refine (trimLeft32 a B _ hb).mono ?_
  rintro e w2 ⟨rfl, h3⟩
  refine hK _ _ ?_
  clear hK K
  have hI2 := hI.keep h3
  have hb2 := hb.keep h3
  have h4 := bstep h2 h3
  have k0 : w2.cell? ⟨w.heap.size + 1, 0, none⟩ = some (.bool false) := cell_of_row w2 _ 0 _ _ _ hI2
  have k1 : w2.cell? ⟨w.heap.size + 1, 1, none⟩ = some (.slice none 0 0) := cell_of_row w2 _ 1 _ _ _ hI2
  have k2 : w2.cell? ⟨w.heap.size + 1, 2, none⟩ = some (.slice none 0 0) := cell_of_row w2 _ 2 _ _ _ hI2
  have f0 := frozen_of_row w2 _ 0 _ _ hI2
  have f1 := frozen_of_row w2 _ 1 _ _ hI2
  have f2 := frozen_of_row w2 _ 2 _ _ hI2
  have HF := Lib.hid (And.intro hb2 (And.intro h4 hI2))
  clear hI hb h2 h3 hI2 hb2 h4
  obtain ⟨x, n, c, hnb⟩ := nbV_is B (wdN a)
  rw [hnb]
  have HN := Lib.hid hnb
  clear hnb
  go_wp2_with fail
  have hG := grown_set' (grown_set' (grown_set' (grown_refl w2 (w.heap.size + 1)) 0 (.bool false)) 1 (.slice x n c)) 2 (.slice none 0 0)
  exact bodyPost_ret (v := itB (.slice x n c)) (by simp [results, Tryd.results19, go_sem, k0, k1, k2]) rfl
    ⟨B, by rw [HN.out], HF.out.1.kept hG (by intro e; injection e; omega), hBw, step_world HF.out.2.1 hG (Nat.le_refl _) (by omega)⟩

set_option maxRecDepth 100000 in
set_option maxHeartbeats 2000000 in
theorem word_of_any (n : Nat) (h : n < B64) (w : World) :
    Calls Tryd.prog 71 #[.int .u64 (n : Nat)] w fun e w' => e = .returned (W n) ∧ Below w.heap.size w w' := by
  have h0 := of_lb n w
  have e : lb n 0 = ((n : Nat) : Int) := by unfold lb; rw [Nat.pow_zero, Nat.div_one, Nat.mod_eq_of_lt h]
  have e2 : n % B64 = n := Nat.mod_eq_of_lt h
  rw [e, e2] at h0
  exact h0
end Go.Proofs.YtjmfnafbjfceoaaDoor

/- item: items of bytes: whether they may be, of what kind they are. -/
namespace Go.Proofs.YtjmfnafbjfceoaaDoor
open Go.RowKit

set_option maxRecDepth 100000 in
set_option maxHeartbeats 2000000 in
theorem mayBe_bytes (x : Option Addr) (n c : Nat) (w : World) :
    Calls Tryd.prog 25 #[itB (.slice x n c), .int .i64 1] w fun e w' => e = .returned (.bool true) ∧ Below w.heap.size w w' := by
  have hW := balloc (balloc (Below.refl w.heap.size w) (.cells #[.bool false, .slice x n c, .slice none 0 0] 25)) (.cells #[.int .i64 1] 3)
  go_enter Tryd.func25, Tryd.ntmps25
  go_wp2_with fail
  go_ret
  exact ⟨rfl, hW⟩
set_option maxRecDepth 100000 in
set_option maxHeartbeats 2000000 in
theorem right_bytes (x : Option Addr) (n c : Nat) (w : World) :
    Calls Tryd.prog 29 #[itB (.slice x n c), .int .i64 8] w fun e w' => e = .returned (.bool true) ∧ Below w.heap.size w w' := by
  have hW := balloc (Below.refl w.heap.size w) (.cells #[.bool false, .slice x n c, .slice none 0 0] 25)
  go_enter Tryd.func29, Tryd.ntmps29
  go_wp2_with fail
  refine wp_loop_rounds 1 ?_
  rw [rounds_succ]; go_wp2_with fail
  go_ret
  exact ⟨rfl, hW⟩

/-- Of what kind an item of bytes is. -/
def koN (n : Nat) (f : Nat → Nat) : Nat := if n = 1 ∧ f 0 < 128 then 0 else 1
set_option maxRecDepth 100000 in
set_option maxHeartbeats 2000000 in
theorem kindOf_not1 (x : Option Addr) (n c : Nat) (hn : n ≠ 1) (w : World) :
    Calls Tryd.prog 51 #[itB (.slice x n c)] w fun e w' => e = .returned (.int .i64 1) ∧ Below w.heap.size w w' := by
  have hW := balloc (Below.refl w.heap.size w) (.cells #[.bool false, .slice x n c, .slice none 0 0] 25)
  have g : ((n : Int) == 1) = false := by simp; omega
  go_enter Tryd.func51, Tryd.ntmps51
  go_wp2_with fail
  go_quiet (fail)
  go_wp2_with fail
  go_ret
  exact ⟨rfl, below_drewN hW _⟩
set_option maxRecDepth 100000 in
set_option maxHeartbeats 2000000 in
theorem kindOf_1 (b o c v : Nat) (w : World) (hb : b < w.heap.size) (hv : w.cell? ⟨b, o, none⟩ = some (.int .u8 v)) (hH : HD w) :
    Calls Tryd.prog 51 #[itB (.slice (some ⟨b, o, none⟩) 1 c)] w fun e w' => e = .returned (.int .i64 (if v < 128 then 0 else 1)) ∧ Below w.heap.size w w' := by
  have hW := balloc (Below.refl w.heap.size w) (.cells #[.bool false, .slice (some ⟨b, o, none⟩) 1 c, .slice none 0 0] 25)
  have c1 := hH.keep hW 1 (by omega)
  rw [show hdN 1 = 128 from rfl] at c1
  have c2 := (hW.cell (p := ⟨b, o, none⟩) hb).trans hv
  clear hH hv
  go_enter Tryd.func51, Tryd.ntmps51
  by_cases h : v < 128
  · have g : (v : Int) < 128 := by omega
    rw [if_pos h]
    clear h
    go_wp2_with fail
    go_quiet (fail)
    go_wp2_with fail
    go_ret
    exact ⟨rfl, below_drewN hW _⟩
  · have g : ¬ (v : Int) < 128 := by omega
    rw [if_neg h]
    clear h
    go_wp2_with fail
    go_quiet (fail)
    go_wp2_with fail
    go_ret
    exact ⟨rfl, below_drewN hW _⟩
end Go.Proofs.YtjmfnafbjfceoaaDoor

/- item: heads of one byte, of both. -/
namespace Go.Proofs.YtjmfnafbjfceoaaDoor
open Go.RowKit

set_option maxRecDepth 100000 in
set_option maxHeartbeats 2000000 in
theorem head_alone (n : Int) (w : World) :
    Calls Tryd.prog 50 #[.int .i64 0, .int .i64 n] w fun e w' => e = .returned (.slice none 0 0) ∧ Below w.heap.size w w' := by
  go_enter Tryd.func50, Tryd.ntmps50
  go_wp2_with fail
  go_ret
  exact ⟨rfl, Below.refl _ _⟩
set_option maxRecDepth 100000 in
set_option maxHeartbeats 2000000 in
theorem head_short (k n : Nat) (hk : 1 ≤ k ∧ k < 3) (hn : n ≤ 55) (w : World) (hH : HD w) :
    Calls Tryd.prog 50 #[.int .i64 k, .int .i64 n] w fun e w' => ∃ B, e = .returned (.slice (some ⟨B, 0, none⟩) 1 1) ∧ Blk w' B 5 #[.int .u8 (hdN k + n : Nat)] ∧ w.heap.size ≤ B ∧ Below w.heap.size w w' := by
  have c0 := hH k (by omega)
  have g0 : ((k : Int) == 0) = false := by simp; omega
  have g1 : (n : Int) ≤ 55 := by omega
  have g2 : (k : Int) < 3 := by omega
  have g3 : 0 ≤ (k : Int) := by omega
  have w1 : IntKind.u8.wrap (n : Int) = (n : Int) := by rw [IntKind.wrap_u8]; omega
  have hb : hdN k ≤ 192 := by
    unfold hdN
    by_cases h1 : k = 0
    · rw [if_pos h1]; omega
    · rw [if_neg h1]
      by_cases h2 : k = 1
      · rw [if_pos h2]; omega
      · rw [if_neg h2]; omega
  have w2 : IntKind.u8.wrap ((hdN k : Int) + (n : Int)) = ((hdN k + n : Nat) : Int) := by rw [IntKind.wrap_u8]; omega
  generalize hdN k = h at c0 w2 hb ⊢
  clear hH
  go_enter Tryd.func50, Tryd.ntmps50
  go_wp2_with fail
  go_ret
  exact ⟨w.heap.size, rfl, Blk.new w _ _, Nat.le_refl _, balloc (Below.refl _ _) _⟩
set_option maxRecDepth 100000 in
set_option maxHeartbeats 2000000 in
theorem rhead_short (h n : Nat) (hh : h ≤ 192) (hn : n ≤ 55) (w : World) :
    Calls Tryd.prog 52 #[.int .i64 h, .int .i64 n] w fun e w' => ∃ B, e = .returned (.slice (some ⟨B, 0, none⟩) 1 1) ∧ Blk w' B 5 #[.int .u8 (h + n : Nat)] ∧ w.heap.size ≤ B ∧ Below w.heap.size w w' := by
  have g1 : (n : Int) ≤ 55 := by omega
  have w1 : IntKind.i64.wrap ((h : Int) + (n : Int)) = ((h + n : Nat) : Int) := (IntWalk.i64_in _ (by omega)).trans (by omega)
  have w2 : IntKind.u8.wrap ((h + n : Nat) : Int) = ((h + n : Nat) : Int) := by rw [IntKind.wrap_u8]; omega
  go_enter Tryd.func52, Tryd.ntmps52
  go_wp2_with fail
  go_ret
  exact ⟨w.heap.size, rfl, Blk.new w _ _, Nat.le_refl _, balloc (Below.refl _ _) _⟩
end Go.Proofs.YtjmfnafbjfceoaaDoor

/- item: the reference's Number. -/
namespace Go.Proofs.YtjmfnafbjfceoaaDoor
open Go.RowKit
attribute [local irreducible] lb wdG byA byC
theorem slice32 (gp f : Nat) (hf : f ≤ 32) (w : World) : (Instr.sliceAt 81 (.pointer (some ⟨gp, 0, none⟩)) (some (.int .i64 (f : Nat))) none none).run Tryd.prog w = .ok (.slice (some ⟨gp, if 32 = f then 0 else f, none⟩) (32 - f) (32 - f)) w := by
  have h := run_sliceAt_array_l (P := Tryd.prog) w 81 ⟨gp, 0, none⟩ (by kernel_rfl) .i64 (f : Int) (by omega) (by rw [show Tryd.prog.arrayLen 81 = 32 by kernel_rfl]; omega)
  rw [h, show Tryd.prog.elem 81 = 5 by kernel_rfl, show (sizeOf 5).run Tryd.prog w = .ok 1 w by kernel_rfl, show Tryd.prog.arrayLen 81 = 32 by kernel_rfl]
  simp only [Result.andThen_ok, slicedAt, Int.toNat_natCast]
  by_cases h : 32 = f
  · rw [if_pos h, if_pos h]
  · rw [if_neg h, if_neg h, Go.WideShapes.add_plain, Nat.mul_one, Nat.zero_add]
theorem wdG_le (b : Nat → Nat) : ∀ m, wdG b m ≤ m
  | 0 => by unfold wdG; exact Nat.le_refl _
  | m + 1 => by
    unfold wdG
    split
    · exact Nat.le_succ_of_le (wdG_le b m)
    · exact Nat.le_refl _

set_option maxRecDepth 100000 in
set_option maxHeartbeats 2000000 in
theorem rnumber_any (a : Nat) (w : World) :
    Calls Tryd.prog 22 #[W a] w fun e w' => ∃ v, e = .returned (itB v) ∧ SlB w'.heap.size w' ⟨v, wdN a, fun p => byA a (wdN a - 1 - p)⟩ ∧ Below w.heap.size w w' := by
  have hW := balloc (balloc (Below.refl w.heap.size w) (.cells (Wc a) 47)) (.cells #[.bool false, .slice none 0 0, .slice none 0 0] 25)
  have hI0 : Blk ((w.alloc (.cells (Wc a) 47)).alloc (.cells #[.bool false, .slice none 0 0, .slice none 0 0] 25)) (w.heap.size + 1) 25 #[.bool false, .slice none 0 0, .slice none 0 0] := Blk.newS w _ _ _
  have hA0 : Blk ((w.alloc (.cells (Wc a) 47)).alloc (.cells #[.bool false, .slice none 0 0, .slice none 0 0] 25)) w.heap.size 47 (Wc a) := (Blk.new w _ _).alloc _
  go_enter Tryd.func22, Tryd.ntmps22
  go_wp2_with fail
  refine (rbytes_any a _).mono ?_
  rintro e w1 ⟨rfl, h1⟩
  rename_i K hK
  refine hK _ _ ?_
  clear hK K
  have hI1 := hI0.keep h1
  have hA1 := hA0.keep h1
  have h2 := bstep hW h1
  clear hI0 hA0 hW h1
  refine wpList_plain rfl fun K hK => ?_
  go_simp
  refine hK _ _ ?_
  clear hK K
  have z32 : byC 0 0 = #[.int .u8 0, .int .u8 0, .int .u8 0, .int .u8 0, .int .u8 0, .int .u8 0, .int .u8 0, .int .u8 0, .int .u8 0, .int .u8 0, .int .u8 0, .int .u8 0, .int .u8 0, .int .u8 0, .int .u8 0, .int .u8 0, .int .u8 0, .int .u8 0, .int .u8 0, .int .u8 0, .int .u8 0, .int .u8 0, .int .u8 0, .int .u8 0, .int .u8 0, .int .u8 0, .int .u8 0, .int .u8 0, .int .u8 0, .int .u8 0, .int .u8 0, .int .u8 0] := byC_zero 0
  rw [← z32]
  refine wpList_store_row rfl 81 (.tmp 3) (.tmp 5) rfl w1.heap.size (byC a 32) rfl rfl 81 (byC 0 0) (Blk.new w1 _ _) (by rw [info44, byC_size]) (by rw [byC_size, byC_size]) (byC_one _ _) (wpList_nil ?_)
  rw [World.setRow_alloc_new]
  have hM := Blk.new w1 81 (byC a 32)
  have hW1 := balloc h2 (.cells (byC a 32) 81)
  have hI2 := hI1.alloc (.cells (byC a 32) 81)
  have hA2 := hA1.alloc (.cells (byC a 32) 81)
  have hgm := hI1.lt
  obtain ⟨w2, hw2⟩ : ∃ w2, w1.alloc (.cells (byC a 32) 81) = w2 := ⟨_, rfl⟩
  rw [hw2] at hM hW1 hI2 hA2 ⊢
  generalize w1.heap.size = gm at hM hgm ⊢
  clear hw2 hI1 hA1 h2 z32
  have a0 := (cell_of_row w2 _ 0 _ _ _ hA2).trans (wc_get a 0 (by omega))
  have a1 := (cell_of_row w2 _ 1 _ _ _ hA2).trans (wc_get a 1 (by omega))
  have a2 := (cell_of_row w2 _ 2 _ _ _ hA2).trans (wc_get a 2 (by omega))
  have a3 := (cell_of_row w2 _ 3 _ _ _ hA2).trans (wc_get a 3 (by omega))
  have HX := Lib.hid (And.intro hM (And.intro hW1 hI2))
  have hAl := hA2.lt
  clear hM hW1 hI2 hA2
  go_wp2_with fail
  refine (rwide_any a _).mono ?_
  rintro e w3 ⟨rfl, h3⟩
  rename_i K hK
  refine hK _ _ ?_
  clear hK K a0 a1 a2 a3
  obtain ⟨hM, hW, hI⟩ := HX.out
  have hIlt := hI.lt
  have hown : w3.ownsRow w2.heap.size 5 1 (.slice (some ⟨w2.heap.size, 0, none⟩) 0 0) 0 [] :=
    (World.ownsRow_made w2 #[] 0 (Nat.le_refl _) (by unfold maxLen; omega) (by rfl)).kept (grownNone h3) (.inr (by simp [Value.ownBlock]))
  have h4 := bstep (balloc (Below.refl w2.heap.size w2) (.cells #[] 5)) h3
  have hM3 := hM.keep h4
  have hI3 := hI.keep h4
  have hW3 := bstep hW h4
  have hsz := h4.size
  have hws := hW.size
  clear HX h3 h4 hM hI hW
  have hle : wdN a ≤ 32 := by unfold wdN; exact wdG_le _ 32
  obtain ⟨n, hn⟩ : ∃ n, wdN a = n := ⟨_, rfl⟩
  rw [hn] at hle ⊢
  have g1 : IntKind.i64.wrap (32 - (n : Int)) = ((32 - n : Nat) : Int) := (IntWalk.i64_in _ (by omega)).trans (by omega)
  have hs : ∀ w, (Instr.sliceAt 81 (.pointer (some ⟨gm, 0, none⟩)) (some (.int .i64 (32 - n : Nat))) none none).run Tryd.prog w = .ok (.slice (some ⟨gm, if 32 = 32 - n then 0 else 32 - n, none⟩) n n) w := fun w => by
    rw [slice32 gm (32 - n) (by omega) w, show 32 - (32 - n) = n by omega]
  have hel : ∀ j u, ((List.range n).map fun k => Value.int .u8 (byA a (n - 1 - k) : Nat))[j]? = some u → w3.cell? ((⟨gm, if 32 = 32 - n then 0 else 32 - n, none⟩ : Addr).add j) = some u := fun j u hj => by
    rw [List.getElem?_map] at hj
    by_cases hjn : j < n
    · rw [List.getElem?_range hjn] at hj
      cases hj
      rw [Go.WideShapes.add_plain, if_neg (by omega), cell_of_row w3 gm _ _ _ _ hM3, byC_at a _ (by omega), show 31 - (32 - n + j) = n - 1 - j by omega]
    · rw [List.getElem?_eq_none (by simp; omega)] at hj; cases hj
  generalize (if 32 = 32 - n then 0 else 32 - n) = o at hs hel
  generalize (32 - n : Nat) = d at g1 hs
  obtain ⟨i0, hi, hz0, hz1, hz2⟩ := info_parts' infoU8
  have hu : Tryd.prog.underlying 22 = some (.slice 5) := by kernel_rfl
  have hbs : ∀ k, k < n → byA a (n - 1 - k) < 256 := fun k _ => byA_lt a _
  go_wp2_with (first
      | (at_builtin; refine wpList_append_own _ rfl _ _ 22 rfl w2.heap.size 5 i0 (.int .u8 0) 1 1 hu hi hz0 hz1 hz2 rfl (by decide) _ _ _ rfl hown _ n n ((List.range n).map fun k => Value.int .u8 (byA a (n - 1 - k) : Nat)) rfl ?c1 ?c2 ?c3 ?c4 ?c5 ?c6 ?_)
      | fail)
  case c1 => simp
  case c2 => exact hel
  case c3 => exact fun u hu => by simp only [List.mem_map] at hu; obtain ⟨k, _, rfl⟩ := hu; rfl
  case c4 => unfold maxLen; omega
  case c5 => omega
  case c6 => exact hsz
  intro v' w4 hown2 hgrow _
  have hgr : w3.grownBy w4 (some w2.heap.size) := hgrow
  obtain ⟨x, cap, hv, _⟩ := SlB.owns hbs hown2
  have hv2 : v' = .slice x n cap := hv
  subst hv2
  have hI4 := hI3.kept hgr (by intro e; injection e; omega)
  have hW4 := step_world hW3 hgr (Nat.le_refl _) (by omega)
  have hne : (Value.slice x n cap).ownBlock = none ∨ (Value.slice x n cap).ownBlock ≠ some (w.heap.size + 1) := by
    refine .inr fun e => ?_
    have := (hown2.lt _ e).1
    omega
  have k0 : w4.cell? ⟨w.heap.size + 1, 0, none⟩ = some (.bool false) := cell_of_row w4 _ 0 _ _ _ hI4
  have k1 : w4.cell? ⟨w.heap.size + 1, 1, none⟩ = some (.slice none 0 0) := cell_of_row w4 _ 1 _ _ _ hI4
  have k2 : w4.cell? ⟨w.heap.size + 1, 2, none⟩ = some (.slice none 0 0) := cell_of_row w4 _ 2 _ _ _ hI4
  have f0 := frozen_of_row w4 _ 0 _ _ hI4
  have f1 := frozen_of_row w4 _ 1 _ _ hI4
  have f2 := frozen_of_row w4 _ 2 _ _ hI4
  have HF := Lib.hid (And.intro hown2 (And.intro hW4 (And.intro hne (And.intro hbs hn))))
  clear hI4 hW4 hne hown2 hgr hgrow hv hbs hn hi hz0 hz1 hz2 hu hel hs g1 hown hM3 hI3 hW3
  go_wp2_with fail
  have hG := grown_set' (grown_set' (grown_set' (grown_refl w4 (w.heap.size + 1)) 0 (.bool false)) 1 (.slice x n cap)) 2 (.slice none 0 0)
  exact bodyPost_ret (v := itB (.slice x n cap)) (by simp [results, Tryd.results22, go_sem, k0, k1, k2]) rfl
    ⟨_, rfl, by rw [HF.out.2.2.2.2]; exact SlB.owns HF.out.2.2.2.1 (HF.out.1.kept hG HF.out.2.2.1), step_world HF.out.2.1 hG (Nat.le_refl _) (by omega)⟩
end Go.Proofs.YtjmfnafbjfceoaaDoor

/- item: attempt: its deferred closure, where nothing gives up and where something does. -/
namespace Go.Proofs.YtjmfnafbjfceoaaDoor
open Go.RowKit

theorem catch_idle (p : Addr) (w : World) :
    CallsD Tryd.prog 48 #[.pointer (some p)] .returning w fun e u' w' => e = .returned (.tuple #[]) ∧ u' = .returning ∧ w' = w := by
  refine callsD_of_wpS Tryd.func48 rfl fun c₀ cs hu => ?_
  apply wpS_seq
  apply wpS_region
  simp [wpOpsS, go_sem, recoverD, hu, Tryd.ntmps48, Exit.thenS]
  rw [show (#[Value.pointer (some p)] ++ ((Array.replicate 15 undef).setIfInBounds 3 .nilIface).setIfInBounds 0 .nilIface : Array Value) = #[.pointer (some p), .nilIface, undef, undef, .nilIface, undef, undef, undef, undef, undef, undef, undef, undef, undef, undef, undef] from rfl]
  refine wpS_of_wp ?_
  go_wp2_with fail
  cases c₀
  simp_all [bodyPostS, results, Tryd.results48]

set_option maxRecDepth 100000 in
set_option maxHeartbeats 2000000 in
theorem catch_errno (p : Addr) (x k : Int) (older : List PanicEntry) (w : World) (hc : w.cell? p = some (.int .i64 x)) (hz : w.frozen? p = false) :
    CallsD Tryd.prog 48 #[.pointer (some p)] (.panicking ({ v := .iface 28 (.int .i64 k), recovered := false } :: older)) w fun e u' w' =>
      e = .returned (.tuple #[]) ∧ u' = .panicking ({ v := .iface 28 (.int .i64 k), recovered := true } :: older) ∧ w' = w.setCell p (.int .i64 k) := by
  refine callsD_of_wpS Tryd.func48 rfl fun c₀ cs hu => ?_
  apply wpS_seq
  apply wpS_region
  simp [wpOpsS, go_sem, recoverD, hu, Tryd.ntmps48, Exit.thenS]
  rw [show (#[Value.pointer (some p)] ++ ((Array.replicate 15 undef).setIfInBounds 3 (.iface 28 (.int .i64 k))).setIfInBounds 0 (.iface 28 (.int .i64 k)) : Array Value) = #[.pointer (some p), .iface 28 (.int .i64 k), undef, undef, .iface 28 (.int .i64 k), undef, undef, undef, undef, undef, undef, undef, undef, undef, undef, undef] from rfl]
  refine wpS_of_wp ?_
  have hta : ∀ w, (Instr.typeAssert (.iface 28 (.int .i64 k)) 20 28 true).run Tryd.prog w = .ok (.tuple #[.int .i64 k, .bool true]) w := fun w => by kernel_rfl
  go_wp2_with fail
  simp [bodyPostS, results, Tryd.results48]

set_option maxRecDepth 100000 in
set_option maxHeartbeats 2000000 in
theorem attempt_ret (p : Addr) (w : World) (R : Value → World → Prop)
    (hF : ∀ wr, Below w.heap.size w wr → w.heap.size < wr.heap.size → Calls Tryd.prog 27 #[.pointer (some p)] wr fun e w' => ∃ y m d, e = .returned (.slice y m d) ∧ R (.slice y m d) w' ∧ Below wr.heap.size wr w')
    (hR : ∀ v X Y, R v X → X.grownBy Y (some w.heap.size) → R v Y) :
    Calls Tryd.prog 26 #[.func (.func 27) #[] #[.pointer (some p)]] w fun e w' => ∃ v, e = .returned (.tuple #[v, .int .i64 0]) ∧ R v w' ∧ Below w.heap.size w w' := by
  have hmf : ∀ (fn : Fn) (first cap : Array Value) (w : World), (Instr.makeFunc fn first cap).run Tryd.prog w = .ok (.func fn first cap) w := fun _ _ _ _ => rfl
  go_enter_defers Tryd.func26, Tryd.ntmps26
  go_wp2_with (refine (hF _ (balloc (Below.refl _ _) _) (by rw [World.size_alloc]; omega)).mono ?_; rintro e w1 ⟨y, m, d, rfl, hr1, h1⟩; have hb := (Blk.new w 28 #[.int .i64 0]).keep h1; have k0 : w1.cell? ⟨w.heap.size, 0, none⟩ = some (.int .i64 0) := cell_of_row w1 _ 0 _ _ _ hb; have f0 := frozen_of_row w1 _ 0 _ _ hb)
  have hG := grown_set' (grown_refl w1 w.heap.size) 0 (.int .i64 0)
  have HF := Lib.hid (And.intro (hR _ _ _ hr1 hG) (step_world (bstep (balloc (Below.refl w.heap.size w) (.cells #[.int .i64 0] 28)) h1) hG (Nat.le_refl _) (Nat.le_refl _)))
  refine leaves_cons (f := 48) (args := #[.pointer (some ⟨w.heap.size, 0, none⟩)]) (by simp) (by simp [go_sem]) ?_
  refine (catch_idle ⟨w.heap.size, 0, none⟩ _).mono ?_
  rintro e u' w'' ⟨rfl, rfl, rfl⟩
  refine ⟨.tuple #[.slice y m d, .int .i64 0], ?_, _, rfl, HF.out⟩
  simp [results, Tryd.results26, go_sem, k0]

set_option maxRecDepth 100000 in
set_option maxHeartbeats 2000000 in
theorem attempt_gives (p : Addr) (k : Int) (w : World)
    (hF : ∀ wr, Below w.heap.size w wr → Calls Tryd.prog 27 #[.pointer (some p)] wr fun e w' => e = .panicked [{ v := .iface 28 (.int .i64 k), recovered := false }] ∧ Below wr.heap.size wr w') :
    Calls Tryd.prog 26 #[.func (.func 27) #[] #[.pointer (some p)]] w fun e w' => e = .returned (.tuple #[.slice none 0 0, .int .i64 k]) ∧ Below w.heap.size w w' := by
  have hmf : ∀ (fn : Fn) (first cap : Array Value) (w : World), (Instr.makeFunc fn first cap).run Tryd.prog w = .ok (.func fn first cap) w := fun _ _ _ _ => rfl
  go_enter_defers Tryd.func26, Tryd.ntmps26
  go_wp2_with (refine (hF _ (balloc (Below.refl _ _) _)).mono ?_; rintro e w1 ⟨rfl, h1⟩)
  have hb := (Blk.new w 28 #[.int .i64 0]).keep h1
  have k0 : w1.cell? ⟨w.heap.size, 0, none⟩ = some (.int .i64 0) := cell_of_row w1 _ 0 _ _ _ hb
  have f0 := frozen_of_row w1 _ 0 _ _ hb
  have hG := grown_set' (grown_refl w1 w.heap.size) 0 (.int .i64 k)
  have HF := Lib.hid (step_world (bstep (balloc (Below.refl w.heap.size w) (.cells #[.int .i64 0] 28)) h1) hG (Nat.le_refl _) (Nat.le_refl _))
  refine leaves_cons (f := 48) (args := #[.pointer (some ⟨w.heap.size, 0, none⟩)]) (by simp) (by simp [go_sem]) ?_
  refine (catch_errno ⟨w.heap.size, 0, none⟩ 0 k [] _ k0 f0).mono ?_
  rintro e u' w'' ⟨rfl, rfl, rfl⟩
  refine ⟨.tuple #[.slice none 0 0, .int .i64 k], ?_, rfl, HF.out⟩
  simp [results, Tryd.results26, go_sem, k0]
end Go.Proofs.YtjmfnafbjfceoaaDoor

/- item: Encode of bytes that are too many. -/
namespace Go.Proofs.YtjmfnafbjfceoaaDoor
open Go.RowKit

set_option maxRecDepth 100000 in
set_option maxHeartbeats 2000000 in
theorem laid_long (x : Option Addr) (n c : Nat) (hn : 4096 < n) (w : World) :
    Calls Tryd.prog 28 #[itB (.slice x n c)] w fun e w' => e = .panicked [{ v := .iface 28 (.int .i64 3), recovered := false }] ∧ Below w.heap.size w w' := by
  have hW := balloc (Below.refl w.heap.size w) (.cells #[.bool false, .slice x n c, .slice none 0 0] 25)
  have g : (4096 : Int) < n := by omega
  go_enter Tryd.func28, Tryd.ntmps28
  go_wp2_with fail
  exact ⟨rfl, rfl, hW⟩
set_option maxRecDepth 100000 in
set_option maxHeartbeats 2000000 in
theorem encode1_long (x : Option Addr) (n c B : Nat) (hn : 4096 < n) (w : World) (hB : Blk w B 25 #[.bool false, .slice x n c, .slice none 0 0]) :
    Calls Tryd.prog 27 #[.pointer (some ⟨B, 0, none⟩)] w fun e w' => e = .panicked [{ v := .iface 28 (.int .i64 3), recovered := false }] ∧ Below w.heap.size w w' := by
  have k0 : w.cell? ⟨B, 0, none⟩ = some (.bool false) := cell_of_row w B 0 _ _ _ hB
  have k1 : w.cell? ⟨B, 1, none⟩ = some (.slice x n c) := cell_of_row w B 1 _ _ _ hB
  have k2 : w.cell? ⟨B, 2, none⟩ = some (.slice none 0 0) := cell_of_row w B 2 _ _ _ hB
  clear hB
  go_enter Tryd.func27, Tryd.ntmps27
  go_wp2_with (refine (laid_long x n c hn _).mono ?_; rintro e w1 ⟨rfl, h1⟩)
  exact ⟨rfl, rfl, h1⟩
set_option maxRecDepth 100000 in
set_option maxHeartbeats 2000000 in
theorem encode_long (x : Option Addr) (n c : Nat) (hn : 4096 < n) (w : World) :
    Calls Tryd.prog 10 #[itB (.slice x n c)] w fun e w' => e = .returned (.tuple #[.slice none 0 0, .int .i64 3]) ∧ Below w.heap.size w w' := by
  have hmf : ∀ (fn : Fn) (first cap : Array Value) (w : World), (Instr.makeFunc fn first cap).run Tryd.prog w = .ok (.func fn first cap) w := fun _ _ _ _ => rfl
  have hI := Blk.new w 25 #[.bool false, .slice x n c, .slice none 0 0]
  have hW := balloc (Below.refl w.heap.size w) (.cells #[.bool false, .slice x n c, .slice none 0 0] 25)
  go_enter Tryd.func10, Tryd.ntmps10
  go_wp2_with fail
  refine (mayBe_bytes _ _ _ _).mono ?_
  rintro e w1 ⟨rfl, h1⟩
  rename_i K hK
  refine hK _ _ ?_
  clear hK K
  have hI1 := hI.keep h1
  have hW1 := bstep hW h1
  clear hI hW h1
  go_wp2_with fail
  refine (attempt_gives _ 3 _ (fun wr hwr => encode1_long x n c _ hn wr (hI1.keep hwr))).mono ?_
  rintro e w2 ⟨rfl, h2⟩
  rename_i K hK
  refine hK _ _ ?_
  clear hK K
  have HX := Lib.hid (bstep hW1 h2)
  clear hI1 hW1 h2
  go_wp2_with fail
  exact bodyPost_ret (v := .tuple #[.slice none 0 0, .int .i64 3]) (by simp [results, Tryd.results10, go_sem]) rfl ⟨rfl, HX.out⟩
end Go.Proofs.YtjmfnafbjfceoaaDoor

/- item: laid, of bytes that fit behind a head of one byte. -/
namespace Go.Proofs.YtjmfnafbjfceoaaDoor
open Go.RowKit

def shF (n : Nat) (f : Nat → Nat) : Nat → Nat := fun p => if p = 0 then 128 + n else f (p - 1)
theorem shF_row (n : Nat) (f : Nat → Nat) : ([Value.int .u8 (128 + n : Nat)] ++ (List.range n).map fun k => Value.int .u8 (f k : Nat)) = (List.range (1 + n)).map fun k => Value.int .u8 (shF n f k : Nat) := by
  apply List.ext_getElem?
  intro i
  rw [List.getElem?_map]
  cases i with
  | zero => rw [List.getElem?_range (show 0 < 1 + n by omega)]; rfl
  | succ i =>
    rw [List.cons_append, List.nil_append, List.getElem?_cons_succ, List.getElem?_map]
    by_cases h : i < n
    · rw [List.getElem?_range h, List.getElem?_range (show i + 1 < 1 + n by omega)]; rfl
    · rw [List.getElem?_eq_none (by simp; omega), List.getElem?_eq_none (by simp; omega)]; rfl

set_option maxRecDepth 100000 in
set_option maxHeartbeats 2000000 in
theorem laid_short (b o n cap : Nat) (f : Nat → Nat) (h1 : n ≠ 1) (hn : n ≤ 55) (w : World) (hb : b < w.heap.size) (hf : ∀ k, k < n → f k < 256 ∧ w.cell? ⟨b, o + k, none⟩ = some (.int .u8 (f k : Nat))) (hH : HD w) :
    Calls Tryd.prog 28 #[itB (.slice (some ⟨b, o, none⟩) n cap)] w fun e w' => ∃ x c, e = .returned (.slice x (1 + n) c) ∧ w'.ownsRow w.heap.size 5 1 (.slice x (1 + n) c) (1 + n) ((List.range (1 + n)).map fun k => Value.int .u8 (shF n f k : Nat)) ∧ Below w.heap.size w w' := by
  have hW := balloc (Below.refl w.heap.size w) (.cells #[.bool false, .slice (some ⟨b, o, none⟩) n cap, .slice none 0 0] 25)
  have g : ¬ (4096 : Int) < n := by omega
  go_enter Tryd.func28, Tryd.ntmps28
  go_wp2_with fail
  refine (kindOf_not1 _ _ _ h1 _).mono ?_
  rintro e w1 ⟨rfl, k1⟩
  rename_i K hK
  refine hK _ _ ?_
  clear hK K
  have hW1 := bstep hW k1
  clear hW k1
  refine wpList_plain rfl fun K hK => ?_
  go_simp
  refine hK _ _ ?_
  clear hK K
  refine wpList_plain rfl fun K hK => ?_
  go_simp
  refine hK _ _ ?_
  clear hK K
  refine wpList_plain rfl fun K hK => ?_
  go_simp
  refine (head_short 1 n (by omega) hn _ (hH.keep hW1)).mono ?_
  rintro e w2 ⟨B, rfl, hB, hBw, k2⟩
  refine hK _ _ ?_
  clear hK K
  rw [show hdN 1 = 128 from rfl] at hB
  have hs1 := hW1.size
  have hBl := hB.lt
  have hW2 := bstep hW1 k2
  have hown : w2.ownsRow B 5 1 (.slice (some ⟨B, 0, none⟩) 1 1) 1 [Value.int .u8 (128 + n : Nat)] :=
    ⟨rfl, .inr ⟨B, 1, _, rfl, Nat.le_refl _, hB, Nat.le_refl _, by unfold maxLen; omega, rfl, rfl⟩⟩
  have hel : ∀ j u, ((List.range n).map fun k => Value.int .u8 (f k : Nat))[j]? = some u → w2.cell? ((⟨b, o, none⟩ : Addr).add j) = some u := fun j u hj => by
    rw [List.getElem?_map] at hj
    by_cases hjn : j < n
    · rw [List.getElem?_range hjn] at hj
      cases hj
      rw [Go.WideShapes.add_plain]
      exact (hW2.cell (p := ⟨b, o + j, none⟩) hb).trans (hf j hjn).2
    · rw [List.getElem?_eq_none (by simp; omega)] at hj; cases hj
  have hbs : ∀ k, k < 1 + n → shF n f k < 256 := fun k hk => by
    unfold shF
    by_cases h0 : k = 0
    · rw [if_pos h0]; omega
    · rw [if_neg h0]; exact (hf _ (by omega)).1
  obtain ⟨i0, hi, hz0, hz1, hz2⟩ := info_parts' infoU8
  have hu : Tryd.prog.underlying 22 = some (.slice 5) := by kernel_rfl
  go_wp2_with (first
      | (at_builtin; refine wpList_append_own _ rfl _ _ 22 rfl B 5 i0 (.int .u8 0) 1 1 hu hi hz0 hz1 hz2 rfl (by decide) _ _ _ rfl hown _ n cap ((List.range n).map fun k => Value.int .u8 (f k : Nat)) rfl ?c1 ?c2 ?c3 ?c4 ?c5 ?c6 ?_)
      | fail)
  case c1 => simp
  case c2 => exact hel
  case c3 => exact fun u hu => by simp only [List.mem_map] at hu; obtain ⟨k, _, rfl⟩ := hu; rfl
  case c4 => unfold maxLen; omega
  case c5 => omega
  case c6 => exact Nat.le_of_lt hBl
  intro v' w4 hown2 hgrow _
  have hown3 : w4.ownsRow B 5 1 v' (1 + n) ((List.range (1 + n)).map fun k => Value.int .u8 (shF n f k : Nat)) := by
    have e : ((128 + n : Nat) : Int) = 128 + (n : Int) := by omega
    rw [← shF_row, e]
    exact hown2
  have hgr : w2.grownBy w4 (some B) := hgrow
  have hE := SlB.owns hbs hown3
  obtain ⟨x, cap2, hv, _⟩ := hE
  have hv2 : v' = .slice x (1 + n) cap2 := hv
  subst hv2
  have g2 : ((1 + n : Nat) : Int) ≤ 4096 := by omega
  have HX := Lib.hid (And.intro (hown3.mono (show w.heap.size ≤ B by omega)) (step_world hW2 hgr (Nat.le_refl _) (by omega)))
  clear hv hgr hgrow hown3 hown2 hown hel hbs hi hz0 hz1 hz2 hu hW2 hB hf hH k2 hW1 hBl hBw hs1
  obtain ⟨m, hm⟩ : ∃ m, 1 + n = m := ⟨_, rfl⟩
  rw [hm] at g2 HX ⊢
  have HM := Lib.hid hm
  clear hm
  go_wp2_with fail
  go_ret
  refine ⟨x, cap2, ?_⟩
  rw [HM.out]
  exact ⟨rfl, HX.out⟩

set_option maxRecDepth 100000 in
set_option maxHeartbeats 2000000 in
theorem encode1_ret (v : Value) (B : Nat) (w : World) (P : Value → World → Prop) (hB : Blk w B 25 #[.bool false, v, .slice none 0 0]) (x : Option Addr) (n c : Nat) (hv : v = .slice x n c)
    (hL : Calls Tryd.prog 28 #[itB v] w fun e w' => ∃ y m d, e = .returned (.slice y m d) ∧ P (.slice y m d) w' ∧ Below w.heap.size w w') :
    Calls Tryd.prog 27 #[.pointer (some ⟨B, 0, none⟩)] w fun e w' => ∃ y m d, e = .returned (.slice y m d) ∧ P (.slice y m d) w' ∧ Below w.heap.size w w' := by
  subst hv
  have k0 : w.cell? ⟨B, 0, none⟩ = some (.bool false) := cell_of_row w B 0 _ _ _ hB
  have k1 : w.cell? ⟨B, 1, none⟩ = some (.slice x n c) := cell_of_row w B 1 _ _ _ hB
  have k2 : w.cell? ⟨B, 2, none⟩ = some (.slice none 0 0) := cell_of_row w B 2 _ _ _ hB
  clear hB
  go_enter Tryd.func27, Tryd.ntmps27
  go_wp2_with (refine hL.mono ?_; rintro e w1 ⟨y, m, d, rfl, hp, h1⟩)
  go_ret
  exact ⟨y, m, d, rfl, hp, h1⟩
end Go.Proofs.YtjmfnafbjfceoaaDoor

/- item: Encode of bytes behind a head of one byte. -/
namespace Go.Proofs.YtjmfnafbjfceoaaDoor
open Go.RowKit

set_option maxRecDepth 100000 in
set_option maxHeartbeats 2000000 in
theorem encode_short (b o n cap : Nat) (f : Nat → Nat) (hn1 : n ≠ 1) (hn : n ≤ 55) (w : World) (hb : b < w.heap.size) (hf : ∀ k, k < n → f k < 256 ∧ w.cell? ⟨b, o + k, none⟩ = some (.int .u8 (f k : Nat))) (hH : HD w) :
    Calls Tryd.prog 10 #[itB (.slice (some ⟨b, o, none⟩) n cap)] w fun e w' => ∃ v, e = .returned (.tuple #[v, .int .i64 0]) ∧ w'.ownsRow w.heap.size 5 1 v (1 + n) ((List.range (1 + n)).map fun k => Value.int .u8 (shF n f k : Nat)) ∧ Below w.heap.size w w' := by
  have hmf : ∀ (fn : Fn) (first cap : Array Value) (w : World), (Instr.makeFunc fn first cap).run Tryd.prog w = .ok (.func fn first cap) w := fun _ _ _ _ => rfl
  have hI := Blk.new w 25 #[.bool false, .slice (some ⟨b, o, none⟩) n cap, .slice none 0 0]
  have hW := balloc (Below.refl w.heap.size w) (.cells #[.bool false, .slice (some ⟨b, o, none⟩) n cap, .slice none 0 0] 25)
  go_enter Tryd.func10, Tryd.ntmps10
  go_wp2_with fail
  refine (mayBe_bytes _ _ _ _).mono ?_
  rintro e w1 ⟨rfl, h1⟩
  rename_i K hK
  refine hK _ _ ?_
  clear hK K
  have hI1 := hI.keep h1
  have hW1 := bstep hW h1
  clear hI hW h1
  have hL : ∀ wr, Below w1.heap.size w1 wr → w1.heap.size < wr.heap.size → Calls Tryd.prog 28 #[itB (.slice (some ⟨b, o, none⟩) n cap)] wr fun e w' => ∃ y m d, e = .returned (.slice y m d) ∧ w'.ownsRow (w1.heap.size + 1) 5 1 (.slice y m d) (1 + n) ((List.range (1 + n)).map fun k => Value.int .u8 (shF n f k : Nat)) ∧ Below wr.heap.size wr w' := fun wr hwr hlt => by
    have hB := bstep hW1 hwr
    refine (laid_short b o n cap f hn1 hn wr (Nat.lt_of_lt_of_le hb hB.size) (fun k hk => ⟨(hf k hk).1, (hB.cell (p := ⟨b, o + k, none⟩) hb).trans (hf k hk).2⟩) (hH.keep hB)).mono ?_
    rintro e w' ⟨x, c, rfl, ho, hb2⟩
    exact ⟨x, 1 + n, c, rfl, ho.mono hlt, hb2⟩
  have hA := attempt_ret ⟨w.heap.size, 0, none⟩ w1 (fun v X => X.ownsRow (w1.heap.size + 1) 5 1 v (1 + n) ((List.range (1 + n)).map fun k => Value.int .u8 (shF n f k : Nat)))
    (fun wr hwr hlt => encode1_ret _ _ wr (fun v X => X.ownsRow (w1.heap.size + 1) 5 1 v (1 + n) ((List.range (1 + n)).map fun k => Value.int .u8 (shF n f k : Nat))) (hI1.keep hwr) _ _ _ rfl (hL wr hwr hlt))
    (fun v X Y h hg => h.kept hg (.inr fun e => by have := (h.lt _ e).1; omega))
  have HA := Lib.hid hA
  have HW := Lib.hid hW1
  clear hA hL hI1 hW1 hf hH
  go_wp2_with fail
  refine HA.out.mono ?_
  rintro e w2 ⟨v, rfl, ho, h2⟩
  rename_i K hK
  refine hK _ _ ?_
  clear hK K
  have hs := HW.out.size
  have HX := Lib.hid (And.intro (ho.mono (show w.heap.size ≤ w1.heap.size + 1 by omega)) (bstep HW.out h2))
  clear HA HW ho h2 hs
  go_wp2_with fail
  exact bodyPost_ret (v := .tuple #[v, .int .i64 0]) (by simp [results, Tryd.results10, go_sem]) rfl ⟨v, rfl, HX.out⟩
end Go.Proofs.YtjmfnafbjfceoaaDoor

