/- Texts laid into one: Qc. -/
import Derived.Test.YtcdmaapjcckbmaaDoorQb
import Derived.Test.YtcdmaapjcckbmaaDoorWs
import Derived.Test.YtcdmaapjcckbmaaDoorXj
import Derived.Test.YtcdmaapjcckbmaaDoorCards
import Derived.Test.YtcdmaapjcckbmaaDoorTie
import Derived.WalkKit
import Derived.ProofKit
import Derived.OpenShut
import Derived.Deep.DeepHandedRow
import Derived.Lib.LaidTab
import Derived.Lib.SmallJoins
import Derived.Laws.IdiomArrays
import Derived.WideKeyArr2
import Derived.SevenTiedAt
import Derived.ChangeMaps5
import Derived.Deep.Slices
import Derived.Deep.Strs
import Derived.Carry
/- code's laws: works. -/
namespace Go.Proofs.YtcdmaapjcckbmaaDoor
open Go.RowKit Go.Shelf

theorem i_1 (w : World) : Calls Tryd.prog 10 #[.int .u8 1] w fun e w' => e = .returned (.tuple #[.agg #[.string ⟨#[65, 68, 68]⟩, .int .i64 2, .int .i64 1, .int .u64 3, .bool true, .int .i64 0], .bool true]) ∧ Below w.heap.size w w' := by
  refine (info_any 1 (by decide) w).mono ?_
  rw [oi_1.1, oi_1.2]
  exact fun _ _ h => h
theorem i_12 (w : World) : Calls Tryd.prog 10 #[.int .u8 12] w fun e w' => e = .returned (.tuple #[.agg #[.string ⟨#[]⟩, .int .i64 0, .int .i64 0, .int .u64 0, .bool false, .int .i64 0], .bool false]) ∧ Below w.heap.size w w' := by
  refine (info_any 12 (by decide) w).mono ?_
  rw [oi_12.1, oi_12.2]
  exact fun _ _ h => h
theorem i_145 (w : World) : Calls Tryd.prog 10 #[.int .u8 145] w fun e w' => e = .returned (.tuple #[.agg #[.string ⟨#[83, 87, 65, 80, 50]⟩, .int .i64 3, .int .i64 3, .int .u64 3, .bool true, .int .i64 0], .bool true]) ∧ Below w.heap.size w w' := by
  refine (info_any 145 (by decide) w).mono ?_
  rw [oi_145.1, oi_145.2]
  exact fun _ _ h => h
theorem n_2 (w : World) : Calls Tryd.prog 12 #[.string ⟨#[80, 85, 83, 72, 50]⟩] w fun e w' => e = .returned (.tuple #[.int .u8 97, .bool true]) ∧ Below w.heap.size w w' := by
  refine (named_any ⟨#[80, 85, 83, 72, 50]⟩ w).mono ?_
  rw [nk_push2.1, nk_push2.2]
  exact fun _ _ h => h
theorem m_wl (v : Value) (B : Nat) (w : World) (hB : B ≤ w.heap.size) (hv : Bto B w v wL) : Calls Tryd.prog 16 #[v] w fun e w' => ∃ y c, e = .returned (.slice y 1 c) ∧ OwI w' w.heap.size (.slice y 1 c) [2] ∧ Below w.heap.size w w' := by
  refine (marks_any B v wL (by decide) w hB hv).mono ?_
  rw [mk_wl]
  exact fun _ _ h => h
theorem w_lit10 : W 23296 = .agg #[.int .u64 23296, .int .u64 0, .int .u64 0, .int .u64 0] := by kernel_rfl
theorem of_w (k : Int) (hk : 23296 = k) (w : World) : Calls Tryd.prog 19 #[.int .u64 23296] w fun e w' => e = .returned (.agg #[.int .u64 k, .int .u64 0, .int .u64 0, .int .u64 0]) ∧ Below w.heap.size w w' := by
  refine (rof_any 23296 (by decide) w).mono ?_
  rw [w_lit10, hk]
  exact fun _ _ h => h
theorem p_wl (k : Int) (hk : 23296 = k) (v : Value) (B : Nat) (w : World) (hB : B ≤ w.heap.size) (hv : Bto B w v wL) : Calls Tryd.prog 20 #[v, .int .i64 3] w fun e w' => e = .returned (.tuple #[.agg #[.int .u64 k, .int .u64 0, .int .u64 0, .int .u64 0], .bool true]) ∧ Below w.heap.size w w' := by
  refine (push_any B v wL (by decide) 3 w hB hv).mono ?_
  rw [pw_wl.1, pw_wl.2, w_lit10, hk]
  exact fun _ _ h => h
theorem t_wl (v : Value) (B : Nat) (w : World) (hB : B ≤ w.heap.size) (hv : Bto B w v wL) : Calls Tryd.prog 23 #[v] w fun e w' => e = .returned (.string ⟨#[80, 85, 83, 72, 49, 32, 48, 120, 48, 53, 32, 74, 85, 77, 80, 68, 69, 83, 84, 32, 80, 85, 83, 72, 50, 32, 48, 120, 53, 98, 48, 48]⟩) ∧ Below w.heap.size w w' := by
  refine (text10_any B v wL (by decide) w hB hv).mono ?_
  rw [tx_wl]
  exact fun _ _ h => h
theorem p_1 (w : World) : Calls Tryd.prog 24 #[.string ⟨#[80, 85, 83, 72, 49, 32, 48, 120, 48, 53, 32, 74, 85, 77, 80, 68, 69, 83, 84]⟩] w fun e w' => (∃ v, e = .returned (.tuple #[v, .int .i64 0]) ∧ Ow w' w.heap.size v [96, 5, 91]) ∧ Below w.heap.size w w' := by
  refine (cparse_any ⟨#[80, 85, 83, 72, 49, 32, 48, 120, 48, 53, 32, 74, 85, 77, 80, 68, 69, 83, 84]⟩ w).mono ?_
  rw [pa_1]
  exact fun _ _ h => h
theorem p_2 (w : World) : Calls Tryd.prog 24 #[.string ⟨#[80, 85, 83, 72, 49, 32, 48, 53]⟩] w fun e w' => (∃ v, e = .returned (.tuple #[v, .int .i64 200]) ∧ Ow w' w.heap.size v []) ∧ Below w.heap.size w w' := by
  refine (cparse_any ⟨#[80, 85, 83, 72, 49, 32, 48, 53]⟩ w).mono ?_
  rw [pa_2]
  exact fun _ _ h => h
set_option maxRecDepth 100000 in
theorem eq_i1 (w : World) : (binOp .eql 25 (.agg #[.string ⟨#[65, 68, 68]⟩, .int .i64 2, .int .i64 1, .int .u64 3, .bool true, .int .i64 0]) (.agg #[.string ⟨#[65, 68, 68]⟩, .int .i64 2, .int .i64 1, .int .u64 3, .bool true, .int .i64 0])).run Tryd.prog w = .ok (.bool true) w := by kernel_rfl
set_option maxRecDepth 100000 in
theorem eq_i9 (w : World) : (binOp .eql 25 (.agg #[.string ⟨#[83, 87, 65, 80, 50]⟩, .int .i64 3, .int .i64 3, .int .u64 3, .bool true, .int .i64 0]) (.agg #[.string ⟨#[83, 87, 65, 80, 50]⟩, .int .i64 3, .int .i64 3, .int .u64 3, .bool true, .int .i64 0])).run Tryd.prog w = .ok (.bool true) w := by kernel_rfl
set_option maxRecDepth 100000 in
theorem eq_w (k : Int) (hk : 23296 = k) (w : World) : (binOp .eql 40 (.agg #[.int .u64 k, .int .u64 0, .int .u64 0, .int .u64 0]) (.agg #[.int .u64 k, .int .u64 0, .int .u64 0, .int .u64 0])).run Tryd.prog w = .ok (.bool true) w := by
  subst hk
  kernel_rfl
set_option maxRecDepth 100000 in
theorem bld_i1 (w : World) : (Instr.build 25 #[(0, .string ⟨#[65, 68, 68]⟩), (1, .int .i64 2), (2, .int .i64 1), (3, .int .u64 3), (4, .bool true)]).run Tryd.prog w = .ok (.agg #[.string ⟨#[65, 68, 68]⟩, .int .i64 2, .int .i64 1, .int .u64 3, .bool true, .int .i64 0]) w := run_build w _ _ _ (by kernel_rfl)
set_option maxRecDepth 100000 in
theorem bld_i9 (w : World) : (Instr.build 25 #[(0, .string ⟨#[83, 87, 65, 80, 50]⟩), (1, .int .i64 3), (2, .int .i64 3), (3, .int .u64 3), (4, .bool true)]).run Tryd.prog w = .ok (.agg #[.string ⟨#[83, 87, 65, 80, 50]⟩, .int .i64 3, .int .i64 3, .int .u64 3, .bool true, .int .i64 0]) w := run_build w _ _ _ (by kernel_rfl)
set_option maxRecDepth 100000 in
set_option maxHeartbeats 4000000 in
theorem works_any10 (w : World) : Calls Tryd.prog 9 #[] w fun e w' => e = .returned (.bool true) ∧ Below w.heap.size w w' := by
  obtain ⟨k, hk⟩ : ∃ k : Int, RowKit.Hid (23296 = k) := ⟨_, Lib.hid rfl⟩
  go_enter Tryd.func9, Tryd.ntmps9
  go_upto_region 2 with (first
    | (go_at_call 10; refine (i_1 _).mono ?_; rintro e w1 ⟨rfl, h1⟩)
    | fail)
  have HB1 := Lib.hid (And.intro (Blk.new w1 25 #[.string ⟨#[65, 68, 68]⟩, .int .i64 2, .int .i64 1, .int .u64 3, .bool true, .int .i64 0]) (balloc h1 (.cells #[.string ⟨#[65, 68, 68]⟩, .int .i64 2, .int .i64 1, .int .u64 3, .bool true, .int .i64 0] 25)))
  have hA1 : w.heap.size ≤ w1.heap.size := h1.size
  clear h1
  generalize w1.alloc (.cells #[.string ⟨#[65, 68, 68]⟩, .int .i64 2, .int .i64 1, .int .u64 3, .bool true, .int .i64 0] 25) = V1 at *
  go_upto_region 3 with (first
    | (go_at_call 10; refine (i_12 _).mono ?_; rintro e w2 ⟨rfl, h2⟩)
    | fail)
  have HB2 := Lib.hid (And.intro ((HB1.out.1.keep h2).alloc (.cells #[.string ⟨#[]⟩, .int .i64 0, .int .i64 0, .int .u64 0, .bool false, .int .i64 0] 25)) (balloc (bstep HB1.out.2 h2) (.cells #[.string ⟨#[]⟩, .int .i64 0, .int .i64 0, .int .u64 0, .bool false, .int .i64 0] 25)))
  clear h2 HB1
  generalize w2.alloc (.cells #[.string ⟨#[]⟩, .int .i64 0, .int .i64 0, .int .u64 0, .bool false, .int .i64 0] 25) = V2 at *
  go_upto_region 4 with (first
    | (go_at_call 12; refine (n_2 _).mono ?_; rintro e w3 ⟨rfl, h3⟩)
    | fail)
  have HB3 := Lib.hid (And.intro (HB2.out.1.keep h3) (bstep HB2.out.2 h3))
  clear h3 HB2
  go_upto_region 5 with (first
    | (go_at_call 10; refine (i_145 _).mono ?_; rintro e w4 ⟨rfl, h4⟩)
    | fail)
  have HB4 := Lib.hid (And.intro ((HB3.out.1.keep h4).alloc (.cells #[.string ⟨#[83, 87, 65, 80, 50]⟩, .int .i64 3, .int .i64 3, .int .u64 3, .bool true, .int .i64 0] 25)) (And.intro (Blk.new w4 25 #[.string ⟨#[83, 87, 65, 80, 50]⟩, .int .i64 3, .int .i64 3, .int .u64 3, .bool true, .int .i64 0]) (balloc (bstep HB3.out.2 h4) (.cells #[.string ⟨#[83, 87, 65, 80, 50]⟩, .int .i64 3, .int .i64 3, .int .u64 3, .bool true, .int .i64 0] 25))))
  clear h4 HB3
  generalize w4.alloc (.cells #[.string ⟨#[83, 87, 65, 80, 50]⟩, .int .i64 3, .int .i64 3, .int .u64 3, .bool true, .int .i64 0] 25) = V4 at *
  go_upto_region 6 with fail
  have HB5 := Lib.hid (And.intro (HB4.out.1.alloc (.cells #[.int .u8 96, .int .u8 5, .int .u8 91, .int .u8 97, .int .u8 91] 5)) (And.intro (HB4.out.2.1.alloc (.cells #[.int .u8 96, .int .u8 5, .int .u8 91, .int .u8 97, .int .u8 91] 5)) (And.intro (Blk.new V4 5 #[.int .u8 96, .int .u8 5, .int .u8 91, .int .u8 97, .int .u8 91]) (balloc HB4.out.2.2 (.cells #[.int .u8 96, .int .u8 5, .int .u8 91, .int .u8 97, .int .u8 91] 5)))))
  clear HB4
  generalize V4.alloc (.cells #[.int .u8 96, .int .u8 5, .int .u8 91, .int .u8 97, .int .u8 91] 5) = V5 at *
  have HBT := Lib.hid (fun (X : World) (h : Blk X V4.heap.size 5 #[.int .u8 96, .int .u8 5, .int .u8 91, .int .u8 97, .int .u8 91]) => (Bto.of_blk (l := wL) h (by decide) (by decide) : Bto X.heap.size X (.slice (some ⟨V4.heap.size, 0, none⟩) 5 5) wL))
  go_upto_region 7 with (first
    | (go_at_call 16; refine (m_wl _ _ _ (Nat.le_refl _) (HBT.out _ HB5.out.2.2.1)).mono ?_; rintro e w6 ⟨y6, c6, rfl, hO6, h6⟩)
    | fail)
  obtain ⟨g6, c7, hv6⟩ := Go.Joins.ownsRow_form hO6 (by decide)
  injection hv6 with hy hc
  subst hy
  clear hc
  have hg6 := (World.ownsRow.lt hO6 g6 rfl).2
  have cm6 : w6.cell? ⟨g6, 0, none⟩ = some (.int .i64 2) := World.ownsRow.cellAt hO6 0 (by decide)
  have HB6 := Lib.hid (And.intro (HB5.out.1.keep h6) (And.intro (HB5.out.2.1.keep h6) (And.intro (HB5.out.2.2.1.keep h6) (bstep HB5.out.2.2.2 h6))))
  clear hO6 h6 HB5
  have HG6 := Lib.hid (And.intro hg6 cm6)
  clear hg6 cm6 hA1
  go_upto_region 8 with (first
    | (go_at_call 20; refine (p_wl k hk.out _ _ _ (Nat.le_refl _) (HBT.out _ HB6.out.2.2.1)).mono ?_; rintro e w7 ⟨rfl, h7⟩)
    | fail)
  have cm7 := (cell_heap (p := ⟨g6, 0, none⟩) (h7.block g6 HG6.out.1)).trans HG6.out.2
  have HB7 := Lib.hid (And.intro ((HB6.out.1.keep h7).alloc (.cells #[.int .u64 k, .int .u64 0, .int .u64 0, .int .u64 0] 40)) (And.intro ((HB6.out.2.1.keep h7).alloc (.cells #[.int .u64 k, .int .u64 0, .int .u64 0, .int .u64 0] 40)) (And.intro ((HB6.out.2.2.1.keep h7).alloc (.cells #[.int .u64 k, .int .u64 0, .int .u64 0, .int .u64 0] 40)) (And.intro (Blk.new w7 40 #[.int .u64 k, .int .u64 0, .int .u64 0, .int .u64 0]) (And.intro (balloc (bstep HB6.out.2.2.2 h7) (.cells #[.int .u64 k, .int .u64 0, .int .u64 0, .int .u64 0] 40)) (And.intro (Nat.lt_of_lt_of_le HG6.out.1 (Nat.le_trans h7.size (balloc (Below.refl w7.heap.size w7) (.cells #[.int .u64 k, .int .u64 0, .int .u64 0, .int .u64 0] 40)).size)) (cell_heap (p := ⟨g6, 0, none⟩) ((balloc (Below.refl w7.heap.size w7) (.cells #[.int .u64 k, .int .u64 0, .int .u64 0, .int .u64 0] 40)).block g6 (Nat.lt_of_lt_of_le HG6.out.1 h7.size)) |>.trans cm7)))))))
  clear h7 HB6 HG6 cm7
  generalize w7.alloc (.cells #[.int .u64 k, .int .u64 0, .int .u64 0, .int .u64 0] 40) = V7 at *
  go_upto_region 9 with (first
    | (go_at_call 24; refine (p_1 _).mono ?_; rintro e w8 ⟨⟨v8, rfl, hO8⟩, h8⟩)
    | fail)
  have HB8 := Lib.hid (And.intro (HB7.out.1.keep h8) (And.intro (HB7.out.2.1.keep h8) (And.intro (HB7.out.2.2.1.keep h8) (And.intro (HB7.out.2.2.2.1.keep h8) (And.intro (bstep HB7.out.2.2.2.2.1 h8) (And.intro (Nat.lt_of_lt_of_le HB7.out.2.2.2.2.2.1 h8.size) ((cell_heap (p := ⟨g6, 0, none⟩) (h8.block g6 HB7.out.2.2.2.2.2.1)).trans HB7.out.2.2.2.2.2.2)))))))
  clear h8 HB7
  obtain ⟨x8, d8, hv8⟩ := hO8.is
  subst hv8
  have HO8 := Lib.hid hO8.bt.bto
  clear hO8
  have hb1 := bld_i1
  have hb9 := bld_i9
  have he1 := eq_i1
  have he9 := eq_i9
  have hew := fun w => eq_w k hk.out w
  have hts := seq_self ⟨#[80, 85, 83, 72, 49, 32, 48, 120, 48, 53, 32, 74, 85, 77, 80, 68, 69, 83, 84, 32, 80, 85, 83, 72, 50, 32, 48, 120, 53, 98, 48, 48]⟩
  have hds := seq_self (⟨#[96, 5, 91]⟩ : ByteArray)
  go_upto_region 10 with (first
    | (go_at_call 24; refine (p_2 _).mono ?_; rintro e w9 ⟨⟨v9, rfl, hO9⟩, h9⟩; obtain ⟨x9, d9, rfl⟩ := hO9.is; clear hO9)
    | fail)
  have HC := Lib.hid (And.intro (HB8.out.1.keep h9) (And.intro (HB8.out.2.1.keep h9) (And.intro (HB8.out.2.2.1.keep h9) (And.intro (HB8.out.2.2.2.1.keep h9) (And.intro (bstep HB8.out.2.2.2.2.1 h9) (And.intro (Nat.lt_of_lt_of_le HB8.out.2.2.2.2.2.1 h9.size) (And.intro ((cell_heap (p := ⟨g6, 0, none⟩) (h9.block g6 HB8.out.2.2.2.2.2.1)).trans HB8.out.2.2.2.2.2.2) (HO8.out.new h9))))))))
  clear h9 HB8 HO8
  have ha0 : ∀ Z, Below w9.heap.size w9 Z → Z.cell? ⟨w1.heap.size, 0, none⟩ = some (.string ⟨#[65, 68, 68]⟩) := fun Z hZ => cell_of_row _ _ 0 _ _ _ (HC.out.1.keep hZ)
  have ha1 : ∀ Z, Below w9.heap.size w9 Z → Z.cell? ⟨w1.heap.size, 1, none⟩ = some (.int .i64 2) := fun Z hZ => cell_of_row _ _ 1 _ _ _ (HC.out.1.keep hZ)
  have ha2 : ∀ Z, Below w9.heap.size w9 Z → Z.cell? ⟨w1.heap.size, 2, none⟩ = some (.int .i64 1) := fun Z hZ => cell_of_row _ _ 2 _ _ _ (HC.out.1.keep hZ)
  have ha3 : ∀ Z, Below w9.heap.size w9 Z → Z.cell? ⟨w1.heap.size, 3, none⟩ = some (.int .u64 3) := fun Z hZ => cell_of_row _ _ 3 _ _ _ (HC.out.1.keep hZ)
  have ha4 : ∀ Z, Below w9.heap.size w9 Z → Z.cell? ⟨w1.heap.size, 4, none⟩ = some (.bool true) := fun Z hZ => cell_of_row _ _ 4 _ _ _ (HC.out.1.keep hZ)
  have ha5 : ∀ Z, Below w9.heap.size w9 Z → Z.cell? ⟨w1.heap.size, 5, none⟩ = some (.int .i64 0) := fun Z hZ => cell_of_row _ _ 5 _ _ _ (HC.out.1.keep hZ)
  have hb0 : ∀ Z, Below w9.heap.size w9 Z → Z.cell? ⟨w4.heap.size, 0, none⟩ = some (.string ⟨#[83, 87, 65, 80, 50]⟩) := fun Z hZ => cell_of_row _ _ 0 _ _ _ (HC.out.2.1.keep hZ)
  have hb1 : ∀ Z, Below w9.heap.size w9 Z → Z.cell? ⟨w4.heap.size, 1, none⟩ = some (.int .i64 3) := fun Z hZ => cell_of_row _ _ 1 _ _ _ (HC.out.2.1.keep hZ)
  have hb2 : ∀ Z, Below w9.heap.size w9 Z → Z.cell? ⟨w4.heap.size, 2, none⟩ = some (.int .i64 3) := fun Z hZ => cell_of_row _ _ 2 _ _ _ (HC.out.2.1.keep hZ)
  have hb3 : ∀ Z, Below w9.heap.size w9 Z → Z.cell? ⟨w4.heap.size, 3, none⟩ = some (.int .u64 3) := fun Z hZ => cell_of_row _ _ 3 _ _ _ (HC.out.2.1.keep hZ)
  have hb4 : ∀ Z, Below w9.heap.size w9 Z → Z.cell? ⟨w4.heap.size, 4, none⟩ = some (.bool true) := fun Z hZ => cell_of_row _ _ 4 _ _ _ (HC.out.2.1.keep hZ)
  have hb5 : ∀ Z, Below w9.heap.size w9 Z → Z.cell? ⟨w4.heap.size, 5, none⟩ = some (.int .i64 0) := fun Z hZ => cell_of_row _ _ 5 _ _ _ (HC.out.2.1.keep hZ)
  have hq0 : ∀ Z, Below w9.heap.size w9 Z → Z.cell? ⟨w7.heap.size, 0, none⟩ = some (.int .u64 k) := fun Z hZ => cell_of_row _ _ 0 _ _ _ (HC.out.2.2.2.1.keep hZ)
  have hq1 : ∀ Z, Below w9.heap.size w9 Z → Z.cell? ⟨w7.heap.size, 1, none⟩ = some (.int .u64 0) := fun Z hZ => cell_of_row _ _ 1 _ _ _ (HC.out.2.2.2.1.keep hZ)
  have hq2 : ∀ Z, Below w9.heap.size w9 Z → Z.cell? ⟨w7.heap.size, 2, none⟩ = some (.int .u64 0) := fun Z hZ => cell_of_row _ _ 2 _ _ _ (HC.out.2.2.2.1.keep hZ)
  have hq3 : ∀ Z, Below w9.heap.size w9 Z → Z.cell? ⟨w7.heap.size, 3, none⟩ = some (.int .u64 0) := fun Z hZ => cell_of_row _ _ 3 _ _ _ (HC.out.2.2.2.1.keep hZ)
  have hm : ∀ Z, Below w9.heap.size w9 Z → Z.cell? ⟨g6, 0, none⟩ = some (.int .i64 2) := fun Z hZ => (cell_heap (p := ⟨g6, 0, none⟩) (hZ.block g6 HC.out.2.2.2.2.2.1)).trans HC.out.2.2.2.2.2.2.1
  have hcv : ∀ Z, Below w9.heap.size w9 Z → (convert 32 9 (.slice x8 3 d8)).run Tryd.prog Z = .ok (.string ⟨#[96, 5, 91]⟩) Z := fun Z hZ => conv_byteso _ _ _ _ (HC.out.2.2.2.2.2.2.2.new hZ) (by decide)
  have hB0 : Below w9.heap.size w9 w9.drew := below_drew' (Below.refl _ _)
  simp only [List.append]
  refine wp_region_held_drew (S := fun Z => Below w9.heap.size w9 Z) (by as_aux_lemma => kernel_rfl) hB0 (fun hHeld => ?_)
  simp only [List.size_toArray, List.length_cons, List.length_nil, Nat.reduceAdd, Array.replicate_succ, Array.replicate_zero, List.push_toArray, List.nil_append, List.cons_append]
  refine wpAnyH_take (i := 0) (oi := { dst := some 49, op := Op.load 25 (Operand.tmp 1), type := 25, pos := "law.go:25", after := #[], guard := none }) (v := ?vq0) rfl (by as_aux_lemma => kernel_rfl) (by as_aux_lemma => kernel_rfl) (by as_aux_lemma => kernel_rfl) (fun _ _ _ h => h) (Or.inl ⟨by rfl, ?yq0⟩) (by assumption) ?rq0
  case yq0 => (intro w hSw; (try dsimp only at hSw); have a0 := ha0 w hSw; have a1 := ha1 w hSw; have a2 := ha2 w hSw; have a3 := ha3 w hSw; have a4 := ha4 w hSw; have a5 := ha5 w hSw; have b0 := hb0 w hSw; have b1 := hb1 w hSw; have b2 := hb2 w hSw; have b3 := hb3 w hSw; have b4 := hb4 w hSw; have b5 := hb5 w hSw; have q0 := hq0 w hSw; have q1 := hq1 w hSw; have q2 := hq2 w hSw; have q3 := hq3 w hSw; have mm := hm w hSw; have cv := hcv w hSw; go_simp <;> with_reducible rfl)
  simp only [Act.put, List.setIfInBounds_toArray, List.set_cons_zero, List.set_cons_succ]
  refine wpAnyH_take (i := 1) (oi := { dst := some 50, op := Op.build 25 #[(0, Operand.const (Value.string { data := #[65, 68, 68] })), (1, Operand.const (Value.int IntKind.i64 2)), (2, Operand.const (Value.int IntKind.i64 1)), (3, Operand.const (Value.int IntKind.u64 3)), (4, Operand.const (Value.bool true))], type := 25, pos := "law.go:25", after := #[], guard := none }) (v := ?vq1) rfl (by as_aux_lemma => kernel_rfl) (by as_aux_lemma => kernel_rfl) (by as_aux_lemma => kernel_rfl) (fun _ _ _ h => h) (Or.inl ⟨by rfl, ?yq1⟩) (by assumption) ?rq1
  case yq1 => (intro w hSw; (try dsimp only at hSw); have a0 := ha0 w hSw; have a1 := ha1 w hSw; have a2 := ha2 w hSw; have a3 := ha3 w hSw; have a4 := ha4 w hSw; have a5 := ha5 w hSw; have b0 := hb0 w hSw; have b1 := hb1 w hSw; have b2 := hb2 w hSw; have b3 := hb3 w hSw; have b4 := hb4 w hSw; have b5 := hb5 w hSw; have q0 := hq0 w hSw; have q1 := hq1 w hSw; have q2 := hq2 w hSw; have q3 := hq3 w hSw; have mm := hm w hSw; have cv := hcv w hSw; go_simp <;> with_reducible rfl)
  simp only [Act.put, List.setIfInBounds_toArray, List.set_cons_zero, List.set_cons_succ]
  refine wpAnyH_take (i := 2) (oi := { dst := some 51, op := Op.binOp BinOp.eql 25 (Operand.tmp 49) (Operand.tmp 50) 25, type := 4, pos := "law.go:25", after := #[{ on := 0, ground := Ground.data }, { on := 1, ground := Ground.data }], guard := none }) (v := ?vq2) rfl (by as_aux_lemma => kernel_rfl) (by as_aux_lemma => kernel_rfl) (by as_aux_lemma => kernel_rfl) (fun _ _ _ h => h) (Or.inl ⟨by rfl, ?yq2⟩) (by assumption) ?rq2
  case yq2 => (intro w hSw; (try dsimp only at hSw); have a0 := ha0 w hSw; have a1 := ha1 w hSw; have a2 := ha2 w hSw; have a3 := ha3 w hSw; have a4 := ha4 w hSw; have a5 := ha5 w hSw; have b0 := hb0 w hSw; have b1 := hb1 w hSw; have b2 := hb2 w hSw; have b3 := hb3 w hSw; have b4 := hb4 w hSw; have b5 := hb5 w hSw; have q0 := hq0 w hSw; have q1 := hq1 w hSw; have q2 := hq2 w hSw; have q3 := hq3 w hSw; have mm := hm w hSw; have cv := hcv w hSw; go_simp <;> with_reducible rfl)
  simp only [Act.put, List.setIfInBounds_toArray, List.set_cons_zero, List.set_cons_succ]
  refine wpAnyH_take (i := 3) (oi := { dst := some 52, op := Op.move (Operand.tmp 51), type := 4, pos := "law.go:25", after := #[{ on := 2, ground := Ground.data }], guard := none }) (v := ?vq3) rfl (by as_aux_lemma => kernel_rfl) (by as_aux_lemma => kernel_rfl) (by as_aux_lemma => kernel_rfl) (fun _ _ _ h => h) (Or.inl ⟨by rfl, ?yq3⟩) (by assumption) ?rq3
  case yq3 => (intro w hSw; (try dsimp only at hSw); have a0 := ha0 w hSw; have a1 := ha1 w hSw; have a2 := ha2 w hSw; have a3 := ha3 w hSw; have a4 := ha4 w hSw; have a5 := ha5 w hSw; have b0 := hb0 w hSw; have b1 := hb1 w hSw; have b2 := hb2 w hSw; have b3 := hb3 w hSw; have b4 := hb4 w hSw; have b5 := hb5 w hSw; have q0 := hq0 w hSw; have q1 := hq1 w hSw; have q2 := hq2 w hSw; have q3 := hq3 w hSw; have mm := hm w hSw; have cv := hcv w hSw; go_simp <;> with_reducible rfl)
  simp only [Act.put, List.setIfInBounds_toArray, List.set_cons_zero, List.set_cons_succ]
  refine wpAnyH_take (i := 4) (oi := { dst := some 53, op := Op.move (Operand.tmp 2), type := 4, pos := "law.go:25", after := #[{ on := 3, ground := Ground.guard }], guard := some (3, true) }) (v := ?vq4) rfl (by as_aux_lemma => kernel_rfl) (by as_aux_lemma => kernel_rfl) (by as_aux_lemma => kernel_rfl) (fun _ _ _ h => h) (Or.inl ⟨by rfl, ?yq4⟩) (by assumption) ?rq4
  case yq4 => (intro w hSw; (try dsimp only at hSw); have a0 := ha0 w hSw; have a1 := ha1 w hSw; have a2 := ha2 w hSw; have a3 := ha3 w hSw; have a4 := ha4 w hSw; have a5 := ha5 w hSw; have b0 := hb0 w hSw; have b1 := hb1 w hSw; have b2 := hb2 w hSw; have b3 := hb3 w hSw; have b4 := hb4 w hSw; have b5 := hb5 w hSw; have q0 := hq0 w hSw; have q1 := hq1 w hSw; have q2 := hq2 w hSw; have q3 := hq3 w hSw; have mm := hm w hSw; have cv := hcv w hSw; go_simp <;> with_reducible rfl)
  simp only [Act.put, List.setIfInBounds_toArray, List.set_cons_zero, List.set_cons_succ]
  refine wpAnyH_take (i := 5) (oi := { dst := some 54, op := Op.pick (Operand.tmp 52) (Operand.tmp 53) (Operand.const (Value.bool false)), type := 4, pos := "law.go:25", after := #[{ on := 3, ground := Ground.data }, { on := 4, ground := Ground.data }], guard := none }) (v := ?vq5) rfl (by as_aux_lemma => kernel_rfl) (by as_aux_lemma => kernel_rfl) (by as_aux_lemma => kernel_rfl) (fun _ _ _ h => h) (Or.inl ⟨by rfl, ?yq5⟩) (by assumption) ?rq5
  case yq5 => (intro w hSw; (try dsimp only at hSw); have a0 := ha0 w hSw; have a1 := ha1 w hSw; have a2 := ha2 w hSw; have a3 := ha3 w hSw; have a4 := ha4 w hSw; have a5 := ha5 w hSw; have b0 := hb0 w hSw; have b1 := hb1 w hSw; have b2 := hb2 w hSw; have b3 := hb3 w hSw; have b4 := hb4 w hSw; have b5 := hb5 w hSw; have q0 := hq0 w hSw; have q1 := hq1 w hSw; have q2 := hq2 w hSw; have q3 := hq3 w hSw; have mm := hm w hSw; have cv := hcv w hSw; go_simp <;> with_reducible rfl)
  simp only [Act.put, List.setIfInBounds_toArray, List.set_cons_zero, List.set_cons_succ]
  refine wpAnyH_take (i := 6) (oi := { dst := some 55, op := Op.move (Operand.tmp 54), type := 4, pos := "law.go:25", after := #[{ on := 5, ground := Ground.data }, { on := 3, ground := Ground.chain }], guard := none }) (v := ?vq6) rfl (by as_aux_lemma => kernel_rfl) (by as_aux_lemma => kernel_rfl) (by as_aux_lemma => kernel_rfl) (fun _ _ _ h => h) (Or.inl ⟨by rfl, ?yq6⟩) (by assumption) ?rq6
  case yq6 => (intro w hSw; (try dsimp only at hSw); have a0 := ha0 w hSw; have a1 := ha1 w hSw; have a2 := ha2 w hSw; have a3 := ha3 w hSw; have a4 := ha4 w hSw; have a5 := ha5 w hSw; have b0 := hb0 w hSw; have b1 := hb1 w hSw; have b2 := hb2 w hSw; have b3 := hb3 w hSw; have b4 := hb4 w hSw; have b5 := hb5 w hSw; have q0 := hq0 w hSw; have q1 := hq1 w hSw; have q2 := hq2 w hSw; have q3 := hq3 w hSw; have mm := hm w hSw; have cv := hcv w hSw; go_simp <;> with_reducible rfl)
  simp only [Act.put, List.setIfInBounds_toArray, List.set_cons_zero, List.set_cons_succ]
  refine wpAnyH_take (i := 7) (oi := { dst := some 56, op := Op.move (Operand.tmp 4), type := 4, pos := "law.go:25", after := #[{ on := 6, ground := Ground.guard }], guard := some (6, true) }) (v := ?vq7) rfl (by as_aux_lemma => kernel_rfl) (by as_aux_lemma => kernel_rfl) (by as_aux_lemma => kernel_rfl) (fun _ _ _ h => h) (Or.inl ⟨by rfl, ?yq7⟩) (by assumption) ?rq7
  case yq7 => (intro w hSw; (try dsimp only at hSw); have a0 := ha0 w hSw; have a1 := ha1 w hSw; have a2 := ha2 w hSw; have a3 := ha3 w hSw; have a4 := ha4 w hSw; have a5 := ha5 w hSw; have b0 := hb0 w hSw; have b1 := hb1 w hSw; have b2 := hb2 w hSw; have b3 := hb3 w hSw; have b4 := hb4 w hSw; have b5 := hb5 w hSw; have q0 := hq0 w hSw; have q1 := hq1 w hSw; have q2 := hq2 w hSw; have q3 := hq3 w hSw; have mm := hm w hSw; have cv := hcv w hSw; go_simp <;> with_reducible rfl)
  simp only [Act.put, List.setIfInBounds_toArray, List.set_cons_zero, List.set_cons_succ]
  refine wpAnyH_take (i := 8) (oi := { dst := some 57, op := Op.unOp UnOp.not 4 (Operand.tmp 56), type := 4, pos := "law.go:25", after := #[{ on := 7, ground := Ground.data }, { on := 6, ground := Ground.guard }], guard := some (6, true) }) (v := ?vq8) rfl (by as_aux_lemma => kernel_rfl) (by as_aux_lemma => kernel_rfl) (by as_aux_lemma => kernel_rfl) (fun _ _ _ h => h) (Or.inl ⟨by rfl, ?yq8⟩) (by assumption) ?rq8
  case yq8 => (intro w hSw; (try dsimp only at hSw); have a0 := ha0 w hSw; have a1 := ha1 w hSw; have a2 := ha2 w hSw; have a3 := ha3 w hSw; have a4 := ha4 w hSw; have a5 := ha5 w hSw; have b0 := hb0 w hSw; have b1 := hb1 w hSw; have b2 := hb2 w hSw; have b3 := hb3 w hSw; have b4 := hb4 w hSw; have b5 := hb5 w hSw; have q0 := hq0 w hSw; have q1 := hq1 w hSw; have q2 := hq2 w hSw; have q3 := hq3 w hSw; have mm := hm w hSw; have cv := hcv w hSw; go_simp <;> with_reducible rfl)
  simp only [Act.put, List.setIfInBounds_toArray, List.set_cons_zero, List.set_cons_succ]
  refine wpAnyH_take (i := 9) (oi := { dst := some 58, op := Op.pick (Operand.tmp 55) (Operand.tmp 57) (Operand.const (Value.bool false)), type := 4, pos := "law.go:25", after := #[{ on := 6, ground := Ground.data }, { on := 8, ground := Ground.data }], guard := none }) (v := ?vq9) rfl (by as_aux_lemma => kernel_rfl) (by as_aux_lemma => kernel_rfl) (by as_aux_lemma => kernel_rfl) (fun _ _ _ h => h) (Or.inl ⟨by rfl, ?yq9⟩) (by assumption) ?rq9
  case yq9 => (intro w hSw; (try dsimp only at hSw); have a0 := ha0 w hSw; have a1 := ha1 w hSw; have a2 := ha2 w hSw; have a3 := ha3 w hSw; have a4 := ha4 w hSw; have a5 := ha5 w hSw; have b0 := hb0 w hSw; have b1 := hb1 w hSw; have b2 := hb2 w hSw; have b3 := hb3 w hSw; have b4 := hb4 w hSw; have b5 := hb5 w hSw; have q0 := hq0 w hSw; have q1 := hq1 w hSw; have q2 := hq2 w hSw; have q3 := hq3 w hSw; have mm := hm w hSw; have cv := hcv w hSw; go_simp <;> with_reducible rfl)
  simp only [Act.put, List.setIfInBounds_toArray, List.set_cons_zero, List.set_cons_succ]
  refine wpAnyH_take (i := 10) (oi := { dst := some 59, op := Op.move (Operand.tmp 58), type := 4, pos := "law.go:25", after := #[{ on := 9, ground := Ground.data }, { on := 6, ground := Ground.chain }], guard := none }) (v := ?vq10) rfl (by as_aux_lemma => kernel_rfl) (by as_aux_lemma => kernel_rfl) (by as_aux_lemma => kernel_rfl) (fun _ _ _ h => h) (Or.inl ⟨by rfl, ?yq10⟩) (by assumption) ?rq10
  case yq10 => (intro w hSw; (try dsimp only at hSw); have a0 := ha0 w hSw; have a1 := ha1 w hSw; have a2 := ha2 w hSw; have a3 := ha3 w hSw; have a4 := ha4 w hSw; have a5 := ha5 w hSw; have b0 := hb0 w hSw; have b1 := hb1 w hSw; have b2 := hb2 w hSw; have b3 := hb3 w hSw; have b4 := hb4 w hSw; have b5 := hb5 w hSw; have q0 := hq0 w hSw; have q1 := hq1 w hSw; have q2 := hq2 w hSw; have q3 := hq3 w hSw; have mm := hm w hSw; have cv := hcv w hSw; go_simp <;> with_reducible rfl)
  simp only [Act.put, List.setIfInBounds_toArray, List.set_cons_zero, List.set_cons_succ]
  refine wpAnyH_take (i := 11) (oi := { dst := some 60, op := Op.move (Operand.tmp 5), type := 5, pos := "law.go:25", after := #[{ on := 10, ground := Ground.guard }], guard := some (10, true) }) (v := ?vq11) rfl (by as_aux_lemma => kernel_rfl) (by as_aux_lemma => kernel_rfl) (by as_aux_lemma => kernel_rfl) (fun _ _ _ h => h) (Or.inl ⟨by rfl, ?yq11⟩) (by assumption) ?rq11
  case yq11 => (intro w hSw; (try dsimp only at hSw); have a0 := ha0 w hSw; have a1 := ha1 w hSw; have a2 := ha2 w hSw; have a3 := ha3 w hSw; have a4 := ha4 w hSw; have a5 := ha5 w hSw; have b0 := hb0 w hSw; have b1 := hb1 w hSw; have b2 := hb2 w hSw; have b3 := hb3 w hSw; have b4 := hb4 w hSw; have b5 := hb5 w hSw; have q0 := hq0 w hSw; have q1 := hq1 w hSw; have q2 := hq2 w hSw; have q3 := hq3 w hSw; have mm := hm w hSw; have cv := hcv w hSw; go_simp <;> with_reducible rfl)
  simp only [Act.put, List.setIfInBounds_toArray, List.set_cons_zero, List.set_cons_succ]
  refine wpAnyH_take (i := 12) (oi := { dst := some 61, op := Op.binOp BinOp.eql 5 (Operand.tmp 60) (Operand.const (Value.int IntKind.u8 97)) 5, type := 4, pos := "law.go:25", after := #[{ on := 11, ground := Ground.data }, { on := 10, ground := Ground.guard }], guard := some (10, true) }) (v := ?vq12) rfl (by as_aux_lemma => kernel_rfl) (by as_aux_lemma => kernel_rfl) (by as_aux_lemma => kernel_rfl) (fun _ _ _ h => h) (Or.inl ⟨by rfl, ?yq12⟩) (by assumption) ?rq12
  case yq12 => (intro w hSw; (try dsimp only at hSw); have a0 := ha0 w hSw; have a1 := ha1 w hSw; have a2 := ha2 w hSw; have a3 := ha3 w hSw; have a4 := ha4 w hSw; have a5 := ha5 w hSw; have b0 := hb0 w hSw; have b1 := hb1 w hSw; have b2 := hb2 w hSw; have b3 := hb3 w hSw; have b4 := hb4 w hSw; have b5 := hb5 w hSw; have q0 := hq0 w hSw; have q1 := hq1 w hSw; have q2 := hq2 w hSw; have q3 := hq3 w hSw; have mm := hm w hSw; have cv := hcv w hSw; go_simp <;> with_reducible rfl)
  simp only [Act.put, List.setIfInBounds_toArray, List.set_cons_zero, List.set_cons_succ]
  refine wpAnyH_take (i := 13) (oi := { dst := some 62, op := Op.pick (Operand.tmp 59) (Operand.tmp 61) (Operand.const (Value.bool false)), type := 4, pos := "law.go:25", after := #[{ on := 10, ground := Ground.data }, { on := 12, ground := Ground.data }], guard := none }) (v := ?vq13) rfl (by as_aux_lemma => kernel_rfl) (by as_aux_lemma => kernel_rfl) (by as_aux_lemma => kernel_rfl) (fun _ _ _ h => h) (Or.inl ⟨by rfl, ?yq13⟩) (by assumption) ?rq13
  case yq13 => (intro w hSw; (try dsimp only at hSw); have a0 := ha0 w hSw; have a1 := ha1 w hSw; have a2 := ha2 w hSw; have a3 := ha3 w hSw; have a4 := ha4 w hSw; have a5 := ha5 w hSw; have b0 := hb0 w hSw; have b1 := hb1 w hSw; have b2 := hb2 w hSw; have b3 := hb3 w hSw; have b4 := hb4 w hSw; have b5 := hb5 w hSw; have q0 := hq0 w hSw; have q1 := hq1 w hSw; have q2 := hq2 w hSw; have q3 := hq3 w hSw; have mm := hm w hSw; have cv := hcv w hSw; go_simp <;> with_reducible rfl)
  simp only [Act.put, List.setIfInBounds_toArray, List.set_cons_zero, List.set_cons_succ]
  refine wpAnyH_take (i := 14) (oi := { dst := some 63, op := Op.move (Operand.tmp 62), type := 4, pos := "law.go:25", after := #[{ on := 13, ground := Ground.data }, { on := 10, ground := Ground.chain }], guard := none }) (v := ?vq14) rfl (by as_aux_lemma => kernel_rfl) (by as_aux_lemma => kernel_rfl) (by as_aux_lemma => kernel_rfl) (fun _ _ _ h => h) (Or.inl ⟨by rfl, ?yq14⟩) (by assumption) ?rq14
  case yq14 => (intro w hSw; (try dsimp only at hSw); have a0 := ha0 w hSw; have a1 := ha1 w hSw; have a2 := ha2 w hSw; have a3 := ha3 w hSw; have a4 := ha4 w hSw; have a5 := ha5 w hSw; have b0 := hb0 w hSw; have b1 := hb1 w hSw; have b2 := hb2 w hSw; have b3 := hb3 w hSw; have b4 := hb4 w hSw; have b5 := hb5 w hSw; have q0 := hq0 w hSw; have q1 := hq1 w hSw; have q2 := hq2 w hSw; have q3 := hq3 w hSw; have mm := hm w hSw; have cv := hcv w hSw; go_simp <;> with_reducible rfl)
  simp only [Act.put, List.setIfInBounds_toArray, List.set_cons_zero, List.set_cons_succ]
  refine wpAnyH_take (i := 15) (oi := { dst := some 64, op := Op.move (Operand.tmp 6), type := 4, pos := "law.go:25", after := #[{ on := 14, ground := Ground.guard }], guard := some (14, true) }) (v := ?vq15) rfl (by as_aux_lemma => kernel_rfl) (by as_aux_lemma => kernel_rfl) (by as_aux_lemma => kernel_rfl) (fun _ _ _ h => h) (Or.inl ⟨by rfl, ?yq15⟩) (by assumption) ?rq15
  case yq15 => (intro w hSw; (try dsimp only at hSw); have a0 := ha0 w hSw; have a1 := ha1 w hSw; have a2 := ha2 w hSw; have a3 := ha3 w hSw; have a4 := ha4 w hSw; have a5 := ha5 w hSw; have b0 := hb0 w hSw; have b1 := hb1 w hSw; have b2 := hb2 w hSw; have b3 := hb3 w hSw; have b4 := hb4 w hSw; have b5 := hb5 w hSw; have q0 := hq0 w hSw; have q1 := hq1 w hSw; have q2 := hq2 w hSw; have q3 := hq3 w hSw; have mm := hm w hSw; have cv := hcv w hSw; go_simp <;> with_reducible rfl)
  simp only [Act.put, List.setIfInBounds_toArray, List.set_cons_zero, List.set_cons_succ]
  refine wpAnyH_take (i := 16) (oi := { dst := some 65, op := Op.pick (Operand.tmp 63) (Operand.tmp 64) (Operand.const (Value.bool false)), type := 4, pos := "law.go:25", after := #[{ on := 14, ground := Ground.data }, { on := 15, ground := Ground.data }], guard := none }) (v := ?vq16) rfl (by as_aux_lemma => kernel_rfl) (by as_aux_lemma => kernel_rfl) (by as_aux_lemma => kernel_rfl) (fun _ _ _ h => h) (Or.inl ⟨by rfl, ?yq16⟩) (by assumption) ?rq16
  case yq16 => (intro w hSw; (try dsimp only at hSw); have a0 := ha0 w hSw; have a1 := ha1 w hSw; have a2 := ha2 w hSw; have a3 := ha3 w hSw; have a4 := ha4 w hSw; have a5 := ha5 w hSw; have b0 := hb0 w hSw; have b1 := hb1 w hSw; have b2 := hb2 w hSw; have b3 := hb3 w hSw; have b4 := hb4 w hSw; have b5 := hb5 w hSw; have q0 := hq0 w hSw; have q1 := hq1 w hSw; have q2 := hq2 w hSw; have q3 := hq3 w hSw; have mm := hm w hSw; have cv := hcv w hSw; go_simp <;> with_reducible rfl)
  simp only [Act.put, List.setIfInBounds_toArray, List.set_cons_zero, List.set_cons_succ]
  refine wpAnyH_take (i := 17) (oi := { dst := some 66, op := Op.move (Operand.tmp 65), type := 4, pos := "law.go:25", after := #[{ on := 16, ground := Ground.data }, { on := 14, ground := Ground.chain }], guard := none }) (v := ?vq17) rfl (by as_aux_lemma => kernel_rfl) (by as_aux_lemma => kernel_rfl) (by as_aux_lemma => kernel_rfl) (fun _ _ _ h => h) (Or.inl ⟨by rfl, ?yq17⟩) (by assumption) ?rq17
  case yq17 => (intro w hSw; (try dsimp only at hSw); have a0 := ha0 w hSw; have a1 := ha1 w hSw; have a2 := ha2 w hSw; have a3 := ha3 w hSw; have a4 := ha4 w hSw; have a5 := ha5 w hSw; have b0 := hb0 w hSw; have b1 := hb1 w hSw; have b2 := hb2 w hSw; have b3 := hb3 w hSw; have b4 := hb4 w hSw; have b5 := hb5 w hSw; have q0 := hq0 w hSw; have q1 := hq1 w hSw; have q2 := hq2 w hSw; have q3 := hq3 w hSw; have mm := hm w hSw; have cv := hcv w hSw; go_simp <;> with_reducible rfl)
  simp only [Act.put, List.setIfInBounds_toArray, List.set_cons_zero, List.set_cons_succ]
  refine wpAnyH_take (i := 18) (oi := { dst := some 67, op := Op.load 25 (Operand.tmp 7), type := 25, pos := "law.go:25", after := #[{ on := 17, ground := Ground.guard }], guard := some (17, true) }) (v := ?vq18) rfl (by as_aux_lemma => kernel_rfl) (by as_aux_lemma => kernel_rfl) (by as_aux_lemma => kernel_rfl) (fun _ _ _ h => h) (Or.inl ⟨by rfl, ?yq18⟩) (by assumption) ?rq18
  case yq18 => (intro w hSw; (try dsimp only at hSw); have a0 := ha0 w hSw; have a1 := ha1 w hSw; have a2 := ha2 w hSw; have a3 := ha3 w hSw; have a4 := ha4 w hSw; have a5 := ha5 w hSw; have b0 := hb0 w hSw; have b1 := hb1 w hSw; have b2 := hb2 w hSw; have b3 := hb3 w hSw; have b4 := hb4 w hSw; have b5 := hb5 w hSw; have q0 := hq0 w hSw; have q1 := hq1 w hSw; have q2 := hq2 w hSw; have q3 := hq3 w hSw; have mm := hm w hSw; have cv := hcv w hSw; go_simp <;> with_reducible rfl)
  simp only [Act.put, List.setIfInBounds_toArray, List.set_cons_zero, List.set_cons_succ]
  refine wpAnyH_take (i := 19) (oi := { dst := some 68, op := Op.build 25 #[(0, Operand.const (Value.string { data := #[83, 87, 65, 80, 50] })), (1, Operand.const (Value.int IntKind.i64 3)), (2, Operand.const (Value.int IntKind.i64 3)), (3, Operand.const (Value.int IntKind.u64 3)), (4, Operand.const (Value.bool true))], type := 25, pos := "law.go:25", after := #[{ on := 17, ground := Ground.guard }], guard := some (17, true) }) (v := ?vq19) rfl (by as_aux_lemma => kernel_rfl) (by as_aux_lemma => kernel_rfl) (by as_aux_lemma => kernel_rfl) (fun _ _ _ h => h) (Or.inl ⟨by rfl, ?yq19⟩) (by assumption) ?rq19
  case yq19 => (intro w hSw; (try dsimp only at hSw); have a0 := ha0 w hSw; have a1 := ha1 w hSw; have a2 := ha2 w hSw; have a3 := ha3 w hSw; have a4 := ha4 w hSw; have a5 := ha5 w hSw; have b0 := hb0 w hSw; have b1 := hb1 w hSw; have b2 := hb2 w hSw; have b3 := hb3 w hSw; have b4 := hb4 w hSw; have b5 := hb5 w hSw; have q0 := hq0 w hSw; have q1 := hq1 w hSw; have q2 := hq2 w hSw; have q3 := hq3 w hSw; have mm := hm w hSw; have cv := hcv w hSw; go_simp <;> with_reducible rfl)
  simp only [Act.put, List.setIfInBounds_toArray, List.set_cons_zero, List.set_cons_succ]
  refine wpAnyH_take (i := 20) (oi := { dst := some 69, op := Op.binOp BinOp.eql 25 (Operand.tmp 67) (Operand.tmp 68) 25, type := 4, pos := "law.go:25", after := #[{ on := 18, ground := Ground.data }, { on := 19, ground := Ground.data }, { on := 17, ground := Ground.guard }], guard := some (17, true) }) (v := ?vq20) rfl (by as_aux_lemma => kernel_rfl) (by as_aux_lemma => kernel_rfl) (by as_aux_lemma => kernel_rfl) (fun _ _ _ h => h) (Or.inl ⟨by rfl, ?yq20⟩) (by assumption) ?rq20
  case yq20 => (intro w hSw; (try dsimp only at hSw); have a0 := ha0 w hSw; have a1 := ha1 w hSw; have a2 := ha2 w hSw; have a3 := ha3 w hSw; have a4 := ha4 w hSw; have a5 := ha5 w hSw; have b0 := hb0 w hSw; have b1 := hb1 w hSw; have b2 := hb2 w hSw; have b3 := hb3 w hSw; have b4 := hb4 w hSw; have b5 := hb5 w hSw; have q0 := hq0 w hSw; have q1 := hq1 w hSw; have q2 := hq2 w hSw; have q3 := hq3 w hSw; have mm := hm w hSw; have cv := hcv w hSw; go_simp <;> with_reducible rfl)
  simp only [Act.put, List.setIfInBounds_toArray, List.set_cons_zero, List.set_cons_succ]
  refine wpAnyH_take (i := 21) (oi := { dst := some 70, op := Op.pick (Operand.tmp 66) (Operand.tmp 69) (Operand.const (Value.bool false)), type := 4, pos := "law.go:25", after := #[{ on := 17, ground := Ground.data }, { on := 20, ground := Ground.data }], guard := none }) (v := ?vq21) rfl (by as_aux_lemma => kernel_rfl) (by as_aux_lemma => kernel_rfl) (by as_aux_lemma => kernel_rfl) (fun _ _ _ h => h) (Or.inl ⟨by rfl, ?yq21⟩) (by assumption) ?rq21
  case yq21 => (intro w hSw; (try dsimp only at hSw); have a0 := ha0 w hSw; have a1 := ha1 w hSw; have a2 := ha2 w hSw; have a3 := ha3 w hSw; have a4 := ha4 w hSw; have a5 := ha5 w hSw; have b0 := hb0 w hSw; have b1 := hb1 w hSw; have b2 := hb2 w hSw; have b3 := hb3 w hSw; have b4 := hb4 w hSw; have b5 := hb5 w hSw; have q0 := hq0 w hSw; have q1 := hq1 w hSw; have q2 := hq2 w hSw; have q3 := hq3 w hSw; have mm := hm w hSw; have cv := hcv w hSw; go_simp <;> with_reducible rfl)
  simp only [Act.put, List.setIfInBounds_toArray, List.set_cons_zero, List.set_cons_succ]
  refine wpAnyH_take (i := 22) (oi := { dst := some 71, op := Op.move (Operand.tmp 70), type := 4, pos := "law.go:25", after := #[{ on := 21, ground := Ground.data }, { on := 17, ground := Ground.chain }], guard := none }) (v := ?vq22) rfl (by as_aux_lemma => kernel_rfl) (by as_aux_lemma => kernel_rfl) (by as_aux_lemma => kernel_rfl) (fun _ _ _ h => h) (Or.inl ⟨by rfl, ?yq22⟩) (by assumption) ?rq22
  case yq22 => (intro w hSw; (try dsimp only at hSw); have a0 := ha0 w hSw; have a1 := ha1 w hSw; have a2 := ha2 w hSw; have a3 := ha3 w hSw; have a4 := ha4 w hSw; have a5 := ha5 w hSw; have b0 := hb0 w hSw; have b1 := hb1 w hSw; have b2 := hb2 w hSw; have b3 := hb3 w hSw; have b4 := hb4 w hSw; have b5 := hb5 w hSw; have q0 := hq0 w hSw; have q1 := hq1 w hSw; have q2 := hq2 w hSw; have q3 := hq3 w hSw; have mm := hm w hSw; have cv := hcv w hSw; go_simp <;> with_reducible rfl)
  simp only [Act.put, List.setIfInBounds_toArray, List.set_cons_zero, List.set_cons_succ]
  refine wpAnyH_take (i := 23) (oi := { dst := some 72, op := Op.move (Operand.tmp 8), type := 4, pos := "law.go:25", after := #[{ on := 22, ground := Ground.guard }], guard := some (22, true) }) (v := ?vq23) rfl (by as_aux_lemma => kernel_rfl) (by as_aux_lemma => kernel_rfl) (by as_aux_lemma => kernel_rfl) (fun _ _ _ h => h) (Or.inl ⟨by rfl, ?yq23⟩) (by assumption) ?rq23
  case yq23 => (intro w hSw; (try dsimp only at hSw); have a0 := ha0 w hSw; have a1 := ha1 w hSw; have a2 := ha2 w hSw; have a3 := ha3 w hSw; have a4 := ha4 w hSw; have a5 := ha5 w hSw; have b0 := hb0 w hSw; have b1 := hb1 w hSw; have b2 := hb2 w hSw; have b3 := hb3 w hSw; have b4 := hb4 w hSw; have b5 := hb5 w hSw; have q0 := hq0 w hSw; have q1 := hq1 w hSw; have q2 := hq2 w hSw; have q3 := hq3 w hSw; have mm := hm w hSw; have cv := hcv w hSw; go_simp <;> with_reducible rfl)
  simp only [Act.put, List.setIfInBounds_toArray, List.set_cons_zero, List.set_cons_succ]
  refine wpAnyH_take (i := 24) (oi := { dst := some 73, op := Op.pick (Operand.tmp 71) (Operand.tmp 72) (Operand.const (Value.bool false)), type := 4, pos := "law.go:25", after := #[{ on := 22, ground := Ground.data }, { on := 23, ground := Ground.data }], guard := none }) (v := ?vq24) rfl (by as_aux_lemma => kernel_rfl) (by as_aux_lemma => kernel_rfl) (by as_aux_lemma => kernel_rfl) (fun _ _ _ h => h) (Or.inl ⟨by rfl, ?yq24⟩) (by assumption) ?rq24
  case yq24 => (intro w hSw; (try dsimp only at hSw); have a0 := ha0 w hSw; have a1 := ha1 w hSw; have a2 := ha2 w hSw; have a3 := ha3 w hSw; have a4 := ha4 w hSw; have a5 := ha5 w hSw; have b0 := hb0 w hSw; have b1 := hb1 w hSw; have b2 := hb2 w hSw; have b3 := hb3 w hSw; have b4 := hb4 w hSw; have b5 := hb5 w hSw; have q0 := hq0 w hSw; have q1 := hq1 w hSw; have q2 := hq2 w hSw; have q3 := hq3 w hSw; have mm := hm w hSw; have cv := hcv w hSw; go_simp <;> with_reducible rfl)
  simp only [Act.put, List.setIfInBounds_toArray, List.set_cons_zero, List.set_cons_succ]
  refine wpAnyH_take (i := 25) (oi := { dst := some 74, op := Op.move (Operand.tmp 73), type := 4, pos := "law.go:25", after := #[{ on := 24, ground := Ground.data }, { on := 22, ground := Ground.chain }], guard := none }) (v := ?vq25) rfl (by as_aux_lemma => kernel_rfl) (by as_aux_lemma => kernel_rfl) (by as_aux_lemma => kernel_rfl) (fun _ _ _ h => h) (Or.inl ⟨by rfl, ?yq25⟩) (by assumption) ?rq25
  case yq25 => (intro w hSw; (try dsimp only at hSw); have a0 := ha0 w hSw; have a1 := ha1 w hSw; have a2 := ha2 w hSw; have a3 := ha3 w hSw; have a4 := ha4 w hSw; have a5 := ha5 w hSw; have b0 := hb0 w hSw; have b1 := hb1 w hSw; have b2 := hb2 w hSw; have b3 := hb3 w hSw; have b4 := hb4 w hSw; have b5 := hb5 w hSw; have q0 := hq0 w hSw; have q1 := hq1 w hSw; have q2 := hq2 w hSw; have q3 := hq3 w hSw; have mm := hm w hSw; have cv := hcv w hSw; go_simp <;> with_reducible rfl)
  simp only [Act.put, List.setIfInBounds_toArray, List.set_cons_zero, List.set_cons_succ]
  refine wpAnyH_take (i := 26) (oi := { dst := some 75, op := Op.move (Operand.tmp 9), type := 32, pos := "law.go:25", after := #[{ on := 25, ground := Ground.guard }], guard := some (25, true) }) (v := ?vq26) rfl (by as_aux_lemma => kernel_rfl) (by as_aux_lemma => kernel_rfl) (by as_aux_lemma => kernel_rfl) (fun _ _ _ h => h) (Or.inl ⟨by rfl, ?yq26⟩) (by assumption) ?rq26
  case yq26 => (intro w hSw; (try dsimp only at hSw); have a0 := ha0 w hSw; have a1 := ha1 w hSw; have a2 := ha2 w hSw; have a3 := ha3 w hSw; have a4 := ha4 w hSw; have a5 := ha5 w hSw; have b0 := hb0 w hSw; have b1 := hb1 w hSw; have b2 := hb2 w hSw; have b3 := hb3 w hSw; have b4 := hb4 w hSw; have b5 := hb5 w hSw; have q0 := hq0 w hSw; have q1 := hq1 w hSw; have q2 := hq2 w hSw; have q3 := hq3 w hSw; have mm := hm w hSw; have cv := hcv w hSw; go_simp <;> with_reducible rfl)
  simp only [Act.put, List.setIfInBounds_toArray, List.set_cons_zero, List.set_cons_succ]
  refine wpAnyH_ready (rs := [27]) (by as_aux_lemma => kernel_rfl) (by simp) ?_
  refine AllReadyH.cons (o := { dst := some 76, op := Op.call { callee := Callee.value (Operand.func 23), args := #[Operand.tmp 75], argTypes := #[32] }, type := 9, pos := "law.go:25", after := #[{ on := 26, ground := Ground.data }, { on := 25, ground := Ground.chain }, { on := 25, ground := Ground.guard }], guard := some (25, true) }) rfl (fun K hK => ?_) (by exact AllReadyH.nil)
  rw [if_pos (by rfl)]
  go_simp
  refine (t_wl _ _ _ (Nat.le_refl _) (HBT.out _ (HC.out.2.2.1.keep hB0))).mono ?_
  rintro e wA ⟨rfl, hA⟩
  have hBA := bstep hB0 hA
  refine hK.out _ _ (by (try dsimp only); (first | exact hBB | exact hBA | exact hB0)) (fun hHeld => ?_)
  clear hK K
  simp only [List.setIfInBounds_toArray, List.set_cons_zero, List.set_cons_succ]
  refine wpAnyH_take (i := 28) (oi := { dst := some 77, op := Op.binOp BinOp.eql 9 (Operand.tmp 76) (Operand.const (Value.string { data := #[80, 85, 83, 72, 49, 32, 48, 120, 48, 53, 32, 74, 85, 77, 80, 68, 69, 83, 84, 32, 80, 85, 83, 72, 50, 32, 48, 120, 53, 98, 48, 48] })) 9, type := 4, pos := "law.go:25", after := #[{ on := 27, ground := Ground.data }, { on := 25, ground := Ground.guard }], guard := some (25, true) }) (v := ?vq28) rfl (by as_aux_lemma => kernel_rfl) (by as_aux_lemma => kernel_rfl) (by as_aux_lemma => kernel_rfl) (fun _ _ _ h => h) (Or.inl ⟨by rfl, ?yq28⟩) (by assumption) ?rq28
  case yq28 => (intro w hSw; (try dsimp only at hSw); have a0 := ha0 w hSw; have a1 := ha1 w hSw; have a2 := ha2 w hSw; have a3 := ha3 w hSw; have a4 := ha4 w hSw; have a5 := ha5 w hSw; have b0 := hb0 w hSw; have b1 := hb1 w hSw; have b2 := hb2 w hSw; have b3 := hb3 w hSw; have b4 := hb4 w hSw; have b5 := hb5 w hSw; have q0 := hq0 w hSw; have q1 := hq1 w hSw; have q2 := hq2 w hSw; have q3 := hq3 w hSw; have mm := hm w hSw; have cv := hcv w hSw; go_simp <;> with_reducible rfl)
  simp only [Act.put, List.setIfInBounds_toArray, List.set_cons_zero, List.set_cons_succ]
  refine wpAnyH_take (i := 29) (oi := { dst := some 78, op := Op.pick (Operand.tmp 74) (Operand.tmp 77) (Operand.const (Value.bool false)), type := 4, pos := "law.go:25", after := #[{ on := 25, ground := Ground.data }, { on := 28, ground := Ground.data }], guard := none }) (v := ?vq29) rfl (by as_aux_lemma => kernel_rfl) (by as_aux_lemma => kernel_rfl) (by as_aux_lemma => kernel_rfl) (fun _ _ _ h => h) (Or.inl ⟨by rfl, ?yq29⟩) (by assumption) ?rq29
  case yq29 => (intro w hSw; (try dsimp only at hSw); have a0 := ha0 w hSw; have a1 := ha1 w hSw; have a2 := ha2 w hSw; have a3 := ha3 w hSw; have a4 := ha4 w hSw; have a5 := ha5 w hSw; have b0 := hb0 w hSw; have b1 := hb1 w hSw; have b2 := hb2 w hSw; have b3 := hb3 w hSw; have b4 := hb4 w hSw; have b5 := hb5 w hSw; have q0 := hq0 w hSw; have q1 := hq1 w hSw; have q2 := hq2 w hSw; have q3 := hq3 w hSw; have mm := hm w hSw; have cv := hcv w hSw; go_simp <;> with_reducible rfl)
  simp only [Act.put, List.setIfInBounds_toArray, List.set_cons_zero, List.set_cons_succ]
  refine wpAnyH_take (i := 30) (oi := { dst := some 79, op := Op.move (Operand.tmp 78), type := 4, pos := "law.go:25", after := #[{ on := 29, ground := Ground.data }, { on := 27, ground := Ground.chain }], guard := none }) (v := ?vq30) rfl (by as_aux_lemma => kernel_rfl) (by as_aux_lemma => kernel_rfl) (by as_aux_lemma => kernel_rfl) (fun _ _ _ h => h) (Or.inl ⟨by rfl, ?yq30⟩) (by assumption) ?rq30
  case yq30 => (intro w hSw; (try dsimp only at hSw); have a0 := ha0 w hSw; have a1 := ha1 w hSw; have a2 := ha2 w hSw; have a3 := ha3 w hSw; have a4 := ha4 w hSw; have a5 := ha5 w hSw; have b0 := hb0 w hSw; have b1 := hb1 w hSw; have b2 := hb2 w hSw; have b3 := hb3 w hSw; have b4 := hb4 w hSw; have b5 := hb5 w hSw; have q0 := hq0 w hSw; have q1 := hq1 w hSw; have q2 := hq2 w hSw; have q3 := hq3 w hSw; have mm := hm w hSw; have cv := hcv w hSw; go_simp <;> with_reducible rfl)
  simp only [Act.put, List.setIfInBounds_toArray, List.set_cons_zero, List.set_cons_succ]
  refine wpAnyH_take (i := 31) (oi := { dst := some 80, op := Op.move (Operand.tmp 10), type := 33, pos := "law.go:25", after := #[{ on := 30, ground := Ground.guard }], guard := some (30, true) }) (v := ?vq31) rfl (by as_aux_lemma => kernel_rfl) (by as_aux_lemma => kernel_rfl) (by as_aux_lemma => kernel_rfl) (fun _ _ _ h => h) (Or.inl ⟨by rfl, ?yq31⟩) (by assumption) ?rq31
  case yq31 => (intro w hSw; (try dsimp only at hSw); have a0 := ha0 w hSw; have a1 := ha1 w hSw; have a2 := ha2 w hSw; have a3 := ha3 w hSw; have a4 := ha4 w hSw; have a5 := ha5 w hSw; have b0 := hb0 w hSw; have b1 := hb1 w hSw; have b2 := hb2 w hSw; have b3 := hb3 w hSw; have b4 := hb4 w hSw; have b5 := hb5 w hSw; have q0 := hq0 w hSw; have q1 := hq1 w hSw; have q2 := hq2 w hSw; have q3 := hq3 w hSw; have mm := hm w hSw; have cv := hcv w hSw; go_simp <;> with_reducible rfl)
  simp only [Act.put, List.setIfInBounds_toArray, List.set_cons_zero, List.set_cons_succ]
  refine wpAnyH_ready (rs := [32]) (by as_aux_lemma => kernel_rfl) (by simp) ?_
  refine AllReadyH.cons (o := { dst := some 81, op := Op.call { callee := Callee.builtin Builtin.len, args := #[Operand.tmp 80], argTypes := #[33] }, type := 3, pos := "law.go:25", after := #[{ on := 31, ground := Ground.data }, { on := 30, ground := Ground.guard }], guard := some (30, true) }) rfl (fun K hK => ?_) (by exact AllReadyH.nil)
  rw [if_pos (by rfl)]
  go_simp
  
  refine hK.out _ _ (by (try dsimp only); (first | exact hBB | exact hBA | exact hB0)) (fun hHeld => ?_)
  clear hK K
  simp only [List.setIfInBounds_toArray, List.set_cons_zero, List.set_cons_succ]
  refine wpAnyH_take (i := 33) (oi := { dst := some 82, op := Op.binOp BinOp.eql 3 (Operand.tmp 81) (Operand.const (Value.int IntKind.i64 1)) 3, type := 4, pos := "law.go:25", after := #[{ on := 32, ground := Ground.data }, { on := 30, ground := Ground.guard }], guard := some (30, true) }) (v := ?vq33) rfl (by as_aux_lemma => kernel_rfl) (by as_aux_lemma => kernel_rfl) (by as_aux_lemma => kernel_rfl) (fun _ _ _ h => h) (Or.inl ⟨by rfl, ?yq33⟩) (by assumption) ?rq33
  case yq33 => (intro w hSw; (try dsimp only at hSw); have a0 := ha0 w hSw; have a1 := ha1 w hSw; have a2 := ha2 w hSw; have a3 := ha3 w hSw; have a4 := ha4 w hSw; have a5 := ha5 w hSw; have b0 := hb0 w hSw; have b1 := hb1 w hSw; have b2 := hb2 w hSw; have b3 := hb3 w hSw; have b4 := hb4 w hSw; have b5 := hb5 w hSw; have q0 := hq0 w hSw; have q1 := hq1 w hSw; have q2 := hq2 w hSw; have q3 := hq3 w hSw; have mm := hm w hSw; have cv := hcv w hSw; go_simp <;> with_reducible rfl)
  simp only [Act.put, List.setIfInBounds_toArray, List.set_cons_zero, List.set_cons_succ]
  refine wpAnyH_take (i := 34) (oi := { dst := some 83, op := Op.pick (Operand.tmp 79) (Operand.tmp 82) (Operand.const (Value.bool false)), type := 4, pos := "law.go:25", after := #[{ on := 30, ground := Ground.data }, { on := 33, ground := Ground.data }], guard := none }) (v := ?vq34) rfl (by as_aux_lemma => kernel_rfl) (by as_aux_lemma => kernel_rfl) (by as_aux_lemma => kernel_rfl) (fun _ _ _ h => h) (Or.inl ⟨by rfl, ?yq34⟩) (by assumption) ?rq34
  case yq34 => (intro w hSw; (try dsimp only at hSw); have a0 := ha0 w hSw; have a1 := ha1 w hSw; have a2 := ha2 w hSw; have a3 := ha3 w hSw; have a4 := ha4 w hSw; have a5 := ha5 w hSw; have b0 := hb0 w hSw; have b1 := hb1 w hSw; have b2 := hb2 w hSw; have b3 := hb3 w hSw; have b4 := hb4 w hSw; have b5 := hb5 w hSw; have q0 := hq0 w hSw; have q1 := hq1 w hSw; have q2 := hq2 w hSw; have q3 := hq3 w hSw; have mm := hm w hSw; have cv := hcv w hSw; go_simp <;> with_reducible rfl)
  simp only [Act.put, List.setIfInBounds_toArray, List.set_cons_zero, List.set_cons_succ]
  refine wpAnyH_take (i := 35) (oi := { dst := some 84, op := Op.move (Operand.tmp 83), type := 4, pos := "law.go:25", after := #[{ on := 34, ground := Ground.data }, { on := 30, ground := Ground.chain }], guard := none }) (v := ?vq35) rfl (by as_aux_lemma => kernel_rfl) (by as_aux_lemma => kernel_rfl) (by as_aux_lemma => kernel_rfl) (fun _ _ _ h => h) (Or.inl ⟨by rfl, ?yq35⟩) (by assumption) ?rq35
  case yq35 => (intro w hSw; (try dsimp only at hSw); have a0 := ha0 w hSw; have a1 := ha1 w hSw; have a2 := ha2 w hSw; have a3 := ha3 w hSw; have a4 := ha4 w hSw; have a5 := ha5 w hSw; have b0 := hb0 w hSw; have b1 := hb1 w hSw; have b2 := hb2 w hSw; have b3 := hb3 w hSw; have b4 := hb4 w hSw; have b5 := hb5 w hSw; have q0 := hq0 w hSw; have q1 := hq1 w hSw; have q2 := hq2 w hSw; have q3 := hq3 w hSw; have mm := hm w hSw; have cv := hcv w hSw; go_simp <;> with_reducible rfl)
  simp only [Act.put, List.setIfInBounds_toArray, List.set_cons_zero, List.set_cons_succ]
  refine wpAnyH_take (i := 36) (oi := { dst := some 85, op := Op.move (Operand.tmp 10), type := 33, pos := "law.go:25", after := #[{ on := 35, ground := Ground.guard }], guard := some (35, true) }) (v := ?vq36) rfl (by as_aux_lemma => kernel_rfl) (by as_aux_lemma => kernel_rfl) (by as_aux_lemma => kernel_rfl) (fun _ _ _ h => h) (Or.inl ⟨by rfl, ?yq36⟩) (by assumption) ?rq36
  case yq36 => (intro w hSw; (try dsimp only at hSw); have a0 := ha0 w hSw; have a1 := ha1 w hSw; have a2 := ha2 w hSw; have a3 := ha3 w hSw; have a4 := ha4 w hSw; have a5 := ha5 w hSw; have b0 := hb0 w hSw; have b1 := hb1 w hSw; have b2 := hb2 w hSw; have b3 := hb3 w hSw; have b4 := hb4 w hSw; have b5 := hb5 w hSw; have q0 := hq0 w hSw; have q1 := hq1 w hSw; have q2 := hq2 w hSw; have q3 := hq3 w hSw; have mm := hm w hSw; have cv := hcv w hSw; go_simp <;> with_reducible rfl)
  simp only [Act.put, List.setIfInBounds_toArray, List.set_cons_zero, List.set_cons_succ]
  refine wpAnyH_take (i := 37) (oi := { dst := some 86, op := Op.indexAddr 33 (Operand.tmp 85) (Operand.const (Value.int IntKind.i64 0)), type := 0, pos := "law.go:25", after := #[{ on := 36, ground := Ground.data }, { on := 35, ground := Ground.guard }], guard := some (35, true) }) (v := ?vq37) rfl (by as_aux_lemma => kernel_rfl) (by as_aux_lemma => kernel_rfl) (by as_aux_lemma => kernel_rfl) (fun _ _ _ h => h) (Or.inl ⟨by rfl, ?yq37⟩) (by assumption) ?rq37
  case yq37 => (intro w hSw; (try dsimp only at hSw); have a0 := ha0 w hSw; have a1 := ha1 w hSw; have a2 := ha2 w hSw; have a3 := ha3 w hSw; have a4 := ha4 w hSw; have a5 := ha5 w hSw; have b0 := hb0 w hSw; have b1 := hb1 w hSw; have b2 := hb2 w hSw; have b3 := hb3 w hSw; have b4 := hb4 w hSw; have b5 := hb5 w hSw; have q0 := hq0 w hSw; have q1 := hq1 w hSw; have q2 := hq2 w hSw; have q3 := hq3 w hSw; have mm := hm w hSw; have cv := hcv w hSw; go_simp <;> with_reducible rfl)
  simp only [Act.put, List.setIfInBounds_toArray, List.set_cons_zero, List.set_cons_succ]
  refine wpAnyH_take (i := 38) (oi := { dst := some 87, op := Op.load 3 (Operand.tmp 86), type := 3, pos := "law.go:25", after := #[{ on := 37, ground := Ground.data }, { on := 35, ground := Ground.guard }], guard := some (35, true) }) (v := ?vq38) rfl (by as_aux_lemma => kernel_rfl) (by as_aux_lemma => kernel_rfl) (by as_aux_lemma => kernel_rfl) (fun _ _ _ h => h) (Or.inl ⟨by rfl, ?yq38⟩) (by assumption) ?rq38
  case yq38 => (intro w hSw; (try dsimp only at hSw); have a0 := ha0 w hSw; have a1 := ha1 w hSw; have a2 := ha2 w hSw; have a3 := ha3 w hSw; have a4 := ha4 w hSw; have a5 := ha5 w hSw; have b0 := hb0 w hSw; have b1 := hb1 w hSw; have b2 := hb2 w hSw; have b3 := hb3 w hSw; have b4 := hb4 w hSw; have b5 := hb5 w hSw; have q0 := hq0 w hSw; have q1 := hq1 w hSw; have q2 := hq2 w hSw; have q3 := hq3 w hSw; have mm := hm w hSw; have cv := hcv w hSw; go_simp <;> with_reducible rfl)
  simp only [Act.put, List.setIfInBounds_toArray, List.set_cons_zero, List.set_cons_succ]
  refine wpAnyH_take (i := 39) (oi := { dst := some 88, op := Op.binOp BinOp.eql 3 (Operand.tmp 87) (Operand.const (Value.int IntKind.i64 2)) 3, type := 4, pos := "law.go:25", after := #[{ on := 38, ground := Ground.data }, { on := 35, ground := Ground.guard }], guard := some (35, true) }) (v := ?vq39) rfl (by as_aux_lemma => kernel_rfl) (by as_aux_lemma => kernel_rfl) (by as_aux_lemma => kernel_rfl) (fun _ _ _ h => h) (Or.inl ⟨by rfl, ?yq39⟩) (by assumption) ?rq39
  case yq39 => (intro w hSw; (try dsimp only at hSw); have a0 := ha0 w hSw; have a1 := ha1 w hSw; have a2 := ha2 w hSw; have a3 := ha3 w hSw; have a4 := ha4 w hSw; have a5 := ha5 w hSw; have b0 := hb0 w hSw; have b1 := hb1 w hSw; have b2 := hb2 w hSw; have b3 := hb3 w hSw; have b4 := hb4 w hSw; have b5 := hb5 w hSw; have q0 := hq0 w hSw; have q1 := hq1 w hSw; have q2 := hq2 w hSw; have q3 := hq3 w hSw; have mm := hm w hSw; have cv := hcv w hSw; go_simp <;> with_reducible rfl)
  simp only [Act.put, List.setIfInBounds_toArray, List.set_cons_zero, List.set_cons_succ]
  refine wpAnyH_take (i := 40) (oi := { dst := some 89, op := Op.pick (Operand.tmp 84) (Operand.tmp 88) (Operand.const (Value.bool false)), type := 4, pos := "law.go:25", after := #[{ on := 35, ground := Ground.data }, { on := 39, ground := Ground.data }], guard := none }) (v := ?vq40) rfl (by as_aux_lemma => kernel_rfl) (by as_aux_lemma => kernel_rfl) (by as_aux_lemma => kernel_rfl) (fun _ _ _ h => h) (Or.inl ⟨by rfl, ?yq40⟩) (by assumption) ?rq40
  case yq40 => (intro w hSw; (try dsimp only at hSw); have a0 := ha0 w hSw; have a1 := ha1 w hSw; have a2 := ha2 w hSw; have a3 := ha3 w hSw; have a4 := ha4 w hSw; have a5 := ha5 w hSw; have b0 := hb0 w hSw; have b1 := hb1 w hSw; have b2 := hb2 w hSw; have b3 := hb3 w hSw; have b4 := hb4 w hSw; have b5 := hb5 w hSw; have q0 := hq0 w hSw; have q1 := hq1 w hSw; have q2 := hq2 w hSw; have q3 := hq3 w hSw; have mm := hm w hSw; have cv := hcv w hSw; go_simp <;> with_reducible rfl)
  simp only [Act.put, List.setIfInBounds_toArray, List.set_cons_zero, List.set_cons_succ]
  refine wpAnyH_take (i := 41) (oi := { dst := some 90, op := Op.move (Operand.tmp 89), type := 4, pos := "law.go:25", after := #[{ on := 40, ground := Ground.data }, { on := 35, ground := Ground.chain }], guard := none }) (v := ?vq41) rfl (by as_aux_lemma => kernel_rfl) (by as_aux_lemma => kernel_rfl) (by as_aux_lemma => kernel_rfl) (fun _ _ _ h => h) (Or.inl ⟨by rfl, ?yq41⟩) (by assumption) ?rq41
  case yq41 => (intro w hSw; (try dsimp only at hSw); have a0 := ha0 w hSw; have a1 := ha1 w hSw; have a2 := ha2 w hSw; have a3 := ha3 w hSw; have a4 := ha4 w hSw; have a5 := ha5 w hSw; have b0 := hb0 w hSw; have b1 := hb1 w hSw; have b2 := hb2 w hSw; have b3 := hb3 w hSw; have b4 := hb4 w hSw; have b5 := hb5 w hSw; have q0 := hq0 w hSw; have q1 := hq1 w hSw; have q2 := hq2 w hSw; have q3 := hq3 w hSw; have mm := hm w hSw; have cv := hcv w hSw; go_simp <;> with_reducible rfl)
  simp only [Act.put, List.setIfInBounds_toArray, List.set_cons_zero, List.set_cons_succ]
  refine wpAnyH_take (i := 42) (oi := { dst := some 91, op := Op.load 40 (Operand.tmp 11), type := 40, pos := "law.go:25", after := #[{ on := 41, ground := Ground.guard }], guard := some (41, true) }) (v := ?vq42) rfl (by as_aux_lemma => kernel_rfl) (by as_aux_lemma => kernel_rfl) (by as_aux_lemma => kernel_rfl) (fun _ _ _ h => h) (Or.inl ⟨by rfl, ?yq42⟩) (by assumption) ?rq42
  case yq42 => (intro w hSw; (try dsimp only at hSw); have a0 := ha0 w hSw; have a1 := ha1 w hSw; have a2 := ha2 w hSw; have a3 := ha3 w hSw; have a4 := ha4 w hSw; have a5 := ha5 w hSw; have b0 := hb0 w hSw; have b1 := hb1 w hSw; have b2 := hb2 w hSw; have b3 := hb3 w hSw; have b4 := hb4 w hSw; have b5 := hb5 w hSw; have q0 := hq0 w hSw; have q1 := hq1 w hSw; have q2 := hq2 w hSw; have q3 := hq3 w hSw; have mm := hm w hSw; have cv := hcv w hSw; go_simp <;> with_reducible rfl)
  simp only [Act.put, List.setIfInBounds_toArray, List.set_cons_zero, List.set_cons_succ]
  refine wpAnyH_ready (rs := [43]) (by as_aux_lemma => kernel_rfl) (by simp) ?_
  refine AllReadyH.cons (o := { dst := some 92, op := Op.call { callee := Callee.value (Operand.func 19), args := #[Operand.const (Value.int IntKind.u64 23296)], argTypes := #[23] }, type := 40, pos := "law.go:25", after := #[{ on := 41, ground := Ground.chain }, { on := 41, ground := Ground.guard }], guard := some (41, true) }) rfl (fun K hK => ?_) (by exact AllReadyH.nil)
  rw [if_pos (by rfl)]
  go_simp
  refine (of_w k hk.out _).mono ?_
  rintro e wB ⟨rfl, hB⟩
  have hBB := bstep hBA hB
  refine hK.out _ _ (by (try dsimp only); (first | exact hBB | exact hBA | exact hB0)) (fun hHeld => ?_)
  clear hK K
  simp only [List.setIfInBounds_toArray, List.set_cons_zero, List.set_cons_succ]
  refine wpAnyH_take (i := 44) (oi := { dst := some 93, op := Op.binOp BinOp.eql 40 (Operand.tmp 91) (Operand.tmp 92) 40, type := 4, pos := "law.go:25", after := #[{ on := 42, ground := Ground.data }, { on := 43, ground := Ground.data }, { on := 41, ground := Ground.guard }], guard := some (41, true) }) (v := ?vq44) rfl (by as_aux_lemma => kernel_rfl) (by as_aux_lemma => kernel_rfl) (by as_aux_lemma => kernel_rfl) (fun _ _ _ h => h) (Or.inl ⟨by rfl, ?yq44⟩) (by assumption) ?rq44
  case yq44 => (intro w hSw; (try dsimp only at hSw); have a0 := ha0 w hSw; have a1 := ha1 w hSw; have a2 := ha2 w hSw; have a3 := ha3 w hSw; have a4 := ha4 w hSw; have a5 := ha5 w hSw; have b0 := hb0 w hSw; have b1 := hb1 w hSw; have b2 := hb2 w hSw; have b3 := hb3 w hSw; have b4 := hb4 w hSw; have b5 := hb5 w hSw; have q0 := hq0 w hSw; have q1 := hq1 w hSw; have q2 := hq2 w hSw; have q3 := hq3 w hSw; have mm := hm w hSw; have cv := hcv w hSw; go_simp <;> with_reducible rfl)
  simp only [Act.put, List.setIfInBounds_toArray, List.set_cons_zero, List.set_cons_succ]
  refine wpAnyH_take (i := 45) (oi := { dst := some 94, op := Op.pick (Operand.tmp 90) (Operand.tmp 93) (Operand.const (Value.bool false)), type := 4, pos := "law.go:25", after := #[{ on := 41, ground := Ground.data }, { on := 44, ground := Ground.data }], guard := none }) (v := ?vq45) rfl (by as_aux_lemma => kernel_rfl) (by as_aux_lemma => kernel_rfl) (by as_aux_lemma => kernel_rfl) (fun _ _ _ h => h) (Or.inl ⟨by rfl, ?yq45⟩) (by assumption) ?rq45
  case yq45 => (intro w hSw; (try dsimp only at hSw); have a0 := ha0 w hSw; have a1 := ha1 w hSw; have a2 := ha2 w hSw; have a3 := ha3 w hSw; have a4 := ha4 w hSw; have a5 := ha5 w hSw; have b0 := hb0 w hSw; have b1 := hb1 w hSw; have b2 := hb2 w hSw; have b3 := hb3 w hSw; have b4 := hb4 w hSw; have b5 := hb5 w hSw; have q0 := hq0 w hSw; have q1 := hq1 w hSw; have q2 := hq2 w hSw; have q3 := hq3 w hSw; have mm := hm w hSw; have cv := hcv w hSw; go_simp <;> with_reducible rfl)
  simp only [Act.put, List.setIfInBounds_toArray, List.set_cons_zero, List.set_cons_succ]
  refine wpAnyH_take (i := 46) (oi := { dst := some 95, op := Op.move (Operand.tmp 94), type := 4, pos := "law.go:25", after := #[{ on := 45, ground := Ground.data }, { on := 43, ground := Ground.chain }], guard := none }) (v := ?vq46) rfl (by as_aux_lemma => kernel_rfl) (by as_aux_lemma => kernel_rfl) (by as_aux_lemma => kernel_rfl) (fun _ _ _ h => h) (Or.inl ⟨by rfl, ?yq46⟩) (by assumption) ?rq46
  case yq46 => (intro w hSw; (try dsimp only at hSw); have a0 := ha0 w hSw; have a1 := ha1 w hSw; have a2 := ha2 w hSw; have a3 := ha3 w hSw; have a4 := ha4 w hSw; have a5 := ha5 w hSw; have b0 := hb0 w hSw; have b1 := hb1 w hSw; have b2 := hb2 w hSw; have b3 := hb3 w hSw; have b4 := hb4 w hSw; have b5 := hb5 w hSw; have q0 := hq0 w hSw; have q1 := hq1 w hSw; have q2 := hq2 w hSw; have q3 := hq3 w hSw; have mm := hm w hSw; have cv := hcv w hSw; go_simp <;> with_reducible rfl)
  simp only [Act.put, List.setIfInBounds_toArray, List.set_cons_zero, List.set_cons_succ]
  refine wpAnyH_take (i := 47) (oi := { dst := some 96, op := Op.move (Operand.tmp 12), type := 4, pos := "law.go:25", after := #[{ on := 46, ground := Ground.guard }], guard := some (46, true) }) (v := ?vq47) rfl (by as_aux_lemma => kernel_rfl) (by as_aux_lemma => kernel_rfl) (by as_aux_lemma => kernel_rfl) (fun _ _ _ h => h) (Or.inl ⟨by rfl, ?yq47⟩) (by assumption) ?rq47
  case yq47 => (intro w hSw; (try dsimp only at hSw); have a0 := ha0 w hSw; have a1 := ha1 w hSw; have a2 := ha2 w hSw; have a3 := ha3 w hSw; have a4 := ha4 w hSw; have a5 := ha5 w hSw; have b0 := hb0 w hSw; have b1 := hb1 w hSw; have b2 := hb2 w hSw; have b3 := hb3 w hSw; have b4 := hb4 w hSw; have b5 := hb5 w hSw; have q0 := hq0 w hSw; have q1 := hq1 w hSw; have q2 := hq2 w hSw; have q3 := hq3 w hSw; have mm := hm w hSw; have cv := hcv w hSw; go_simp <;> with_reducible rfl)
  simp only [Act.put, List.setIfInBounds_toArray, List.set_cons_zero, List.set_cons_succ]
  refine wpAnyH_take (i := 48) (oi := { dst := some 97, op := Op.pick (Operand.tmp 95) (Operand.tmp 96) (Operand.const (Value.bool false)), type := 4, pos := "law.go:25", after := #[{ on := 46, ground := Ground.data }, { on := 47, ground := Ground.data }], guard := none }) (v := ?vq48) rfl (by as_aux_lemma => kernel_rfl) (by as_aux_lemma => kernel_rfl) (by as_aux_lemma => kernel_rfl) (fun _ _ _ h => h) (Or.inl ⟨by rfl, ?yq48⟩) (by assumption) ?rq48
  case yq48 => (intro w hSw; (try dsimp only at hSw); have a0 := ha0 w hSw; have a1 := ha1 w hSw; have a2 := ha2 w hSw; have a3 := ha3 w hSw; have a4 := ha4 w hSw; have a5 := ha5 w hSw; have b0 := hb0 w hSw; have b1 := hb1 w hSw; have b2 := hb2 w hSw; have b3 := hb3 w hSw; have b4 := hb4 w hSw; have b5 := hb5 w hSw; have q0 := hq0 w hSw; have q1 := hq1 w hSw; have q2 := hq2 w hSw; have q3 := hq3 w hSw; have mm := hm w hSw; have cv := hcv w hSw; go_simp <;> with_reducible rfl)
  simp only [Act.put, List.setIfInBounds_toArray, List.set_cons_zero, List.set_cons_succ]
  refine wpAnyH_take (i := 49) (oi := { dst := some 98, op := Op.move (Operand.tmp 97), type := 4, pos := "law.go:25", after := #[{ on := 48, ground := Ground.data }, { on := 46, ground := Ground.chain }], guard := none }) (v := ?vq49) rfl (by as_aux_lemma => kernel_rfl) (by as_aux_lemma => kernel_rfl) (by as_aux_lemma => kernel_rfl) (fun _ _ _ h => h) (Or.inl ⟨by rfl, ?yq49⟩) (by assumption) ?rq49
  case yq49 => (intro w hSw; (try dsimp only at hSw); have a0 := ha0 w hSw; have a1 := ha1 w hSw; have a2 := ha2 w hSw; have a3 := ha3 w hSw; have a4 := ha4 w hSw; have a5 := ha5 w hSw; have b0 := hb0 w hSw; have b1 := hb1 w hSw; have b2 := hb2 w hSw; have b3 := hb3 w hSw; have b4 := hb4 w hSw; have b5 := hb5 w hSw; have q0 := hq0 w hSw; have q1 := hq1 w hSw; have q2 := hq2 w hSw; have q3 := hq3 w hSw; have mm := hm w hSw; have cv := hcv w hSw; go_simp <;> with_reducible rfl)
  simp only [Act.put, List.setIfInBounds_toArray, List.set_cons_zero, List.set_cons_succ]
  refine wpAnyH_take (i := 50) (oi := { dst := some 99, op := Op.move (Operand.tmp 13), type := 32, pos := "law.go:25", after := #[{ on := 49, ground := Ground.guard }], guard := some (49, true) }) (v := ?vq50) rfl (by as_aux_lemma => kernel_rfl) (by as_aux_lemma => kernel_rfl) (by as_aux_lemma => kernel_rfl) (fun _ _ _ h => h) (Or.inl ⟨by rfl, ?yq50⟩) (by assumption) ?rq50
  case yq50 => (intro w hSw; (try dsimp only at hSw); have a0 := ha0 w hSw; have a1 := ha1 w hSw; have a2 := ha2 w hSw; have a3 := ha3 w hSw; have a4 := ha4 w hSw; have a5 := ha5 w hSw; have b0 := hb0 w hSw; have b1 := hb1 w hSw; have b2 := hb2 w hSw; have b3 := hb3 w hSw; have b4 := hb4 w hSw; have b5 := hb5 w hSw; have q0 := hq0 w hSw; have q1 := hq1 w hSw; have q2 := hq2 w hSw; have q3 := hq3 w hSw; have mm := hm w hSw; have cv := hcv w hSw; go_simp <;> with_reducible rfl)
  simp only [Act.put, List.setIfInBounds_toArray, List.set_cons_zero, List.set_cons_succ]
  refine wpAnyH_take (i := 51) (oi := { dst := some 100, op := Op.convert 32 9 (Operand.tmp 99), type := 9, pos := "law.go:25", after := #[{ on := 50, ground := Ground.data }, { on := 49, ground := Ground.guard }], guard := some (49, true) }) (v := ?vq51) rfl (by as_aux_lemma => kernel_rfl) (by as_aux_lemma => kernel_rfl) (by as_aux_lemma => kernel_rfl) (fun _ _ _ h => h) (Or.inl ⟨by rfl, ?yq51⟩) (by assumption) ?rq51
  case yq51 => (intro w hSw; (try dsimp only at hSw); have a0 := ha0 w hSw; have a1 := ha1 w hSw; have a2 := ha2 w hSw; have a3 := ha3 w hSw; have a4 := ha4 w hSw; have a5 := ha5 w hSw; have b0 := hb0 w hSw; have b1 := hb1 w hSw; have b2 := hb2 w hSw; have b3 := hb3 w hSw; have b4 := hb4 w hSw; have b5 := hb5 w hSw; have q0 := hq0 w hSw; have q1 := hq1 w hSw; have q2 := hq2 w hSw; have q3 := hq3 w hSw; have mm := hm w hSw; have cv := hcv w hSw; go_simp <;> with_reducible rfl)
  simp only [Act.put, List.setIfInBounds_toArray, List.set_cons_zero, List.set_cons_succ]
  refine wpAnyH_take (i := 52) (oi := { dst := some 101, op := Op.binOp BinOp.eql 9 (Operand.tmp 100) (Operand.const (Value.string { data := #[96, 5, 91] })) 9, type := 4, pos := "law.go:25", after := #[{ on := 51, ground := Ground.data }, { on := 49, ground := Ground.guard }], guard := some (49, true) }) (v := ?vq52) rfl (by as_aux_lemma => kernel_rfl) (by as_aux_lemma => kernel_rfl) (by as_aux_lemma => kernel_rfl) (fun _ _ _ h => h) (Or.inl ⟨by rfl, ?yq52⟩) (by assumption) ?rq52
  case yq52 => (intro w hSw; (try dsimp only at hSw); have a0 := ha0 w hSw; have a1 := ha1 w hSw; have a2 := ha2 w hSw; have a3 := ha3 w hSw; have a4 := ha4 w hSw; have a5 := ha5 w hSw; have b0 := hb0 w hSw; have b1 := hb1 w hSw; have b2 := hb2 w hSw; have b3 := hb3 w hSw; have b4 := hb4 w hSw; have b5 := hb5 w hSw; have q0 := hq0 w hSw; have q1 := hq1 w hSw; have q2 := hq2 w hSw; have q3 := hq3 w hSw; have mm := hm w hSw; have cv := hcv w hSw; go_simp <;> with_reducible rfl)
  simp only [Act.put, List.setIfInBounds_toArray, List.set_cons_zero, List.set_cons_succ]
  refine wpAnyH_take (i := 53) (oi := { dst := some 102, op := Op.pick (Operand.tmp 98) (Operand.tmp 101) (Operand.const (Value.bool false)), type := 4, pos := "law.go:25", after := #[{ on := 49, ground := Ground.data }, { on := 52, ground := Ground.data }], guard := none }) (v := ?vq53) rfl (by as_aux_lemma => kernel_rfl) (by as_aux_lemma => kernel_rfl) (by as_aux_lemma => kernel_rfl) (fun _ _ _ h => h) (Or.inl ⟨by rfl, ?yq53⟩) (by assumption) ?rq53
  case yq53 => (intro w hSw; (try dsimp only at hSw); have a0 := ha0 w hSw; have a1 := ha1 w hSw; have a2 := ha2 w hSw; have a3 := ha3 w hSw; have a4 := ha4 w hSw; have a5 := ha5 w hSw; have b0 := hb0 w hSw; have b1 := hb1 w hSw; have b2 := hb2 w hSw; have b3 := hb3 w hSw; have b4 := hb4 w hSw; have b5 := hb5 w hSw; have q0 := hq0 w hSw; have q1 := hq1 w hSw; have q2 := hq2 w hSw; have q3 := hq3 w hSw; have mm := hm w hSw; have cv := hcv w hSw; go_simp <;> with_reducible rfl)
  simp only [Act.put, List.setIfInBounds_toArray, List.set_cons_zero, List.set_cons_succ]
  refine wpAnyH_take (i := 54) (oi := { dst := some 103, op := Op.move (Operand.tmp 102), type := 4, pos := "law.go:25", after := #[{ on := 53, ground := Ground.data }, { on := 49, ground := Ground.chain }], guard := none }) (v := ?vq54) rfl (by as_aux_lemma => kernel_rfl) (by as_aux_lemma => kernel_rfl) (by as_aux_lemma => kernel_rfl) (fun _ _ _ h => h) (Or.inl ⟨by rfl, ?yq54⟩) (by assumption) ?rq54
  case yq54 => (intro w hSw; (try dsimp only at hSw); have a0 := ha0 w hSw; have a1 := ha1 w hSw; have a2 := ha2 w hSw; have a3 := ha3 w hSw; have a4 := ha4 w hSw; have a5 := ha5 w hSw; have b0 := hb0 w hSw; have b1 := hb1 w hSw; have b2 := hb2 w hSw; have b3 := hb3 w hSw; have b4 := hb4 w hSw; have b5 := hb5 w hSw; have q0 := hq0 w hSw; have q1 := hq1 w hSw; have q2 := hq2 w hSw; have q3 := hq3 w hSw; have mm := hm w hSw; have cv := hcv w hSw; go_simp <;> with_reducible rfl)
  simp only [Act.put, List.setIfInBounds_toArray, List.set_cons_zero, List.set_cons_succ]
  refine wpAnyH_take (i := 55) (oi := { dst := some 104, op := Op.move (Operand.tmp 14), type := 47, pos := "law.go:25", after := #[{ on := 54, ground := Ground.guard }], guard := some (54, true) }) (v := ?vq55) rfl (by as_aux_lemma => kernel_rfl) (by as_aux_lemma => kernel_rfl) (by as_aux_lemma => kernel_rfl) (fun _ _ _ h => h) (Or.inl ⟨by rfl, ?yq55⟩) (by assumption) ?rq55
  case yq55 => (intro w hSw; (try dsimp only at hSw); have a0 := ha0 w hSw; have a1 := ha1 w hSw; have a2 := ha2 w hSw; have a3 := ha3 w hSw; have a4 := ha4 w hSw; have a5 := ha5 w hSw; have b0 := hb0 w hSw; have b1 := hb1 w hSw; have b2 := hb2 w hSw; have b3 := hb3 w hSw; have b4 := hb4 w hSw; have b5 := hb5 w hSw; have q0 := hq0 w hSw; have q1 := hq1 w hSw; have q2 := hq2 w hSw; have q3 := hq3 w hSw; have mm := hm w hSw; have cv := hcv w hSw; go_simp <;> with_reducible rfl)
  simp only [Act.put, List.setIfInBounds_toArray, List.set_cons_zero, List.set_cons_succ]
  refine wpAnyH_ready (rs := [56]) (by as_aux_lemma => kernel_rfl) (by simp) ?_
  refine AllReadyH.cons (o := { dst := some 105, op := Op.call { callee := Callee.value (Operand.func 27), args := #[Operand.tmp 104], argTypes := #[47] }, type := 3, pos := "law.go:25", after := #[{ on := 55, ground := Ground.data }, { on := 54, ground := Ground.chain }, { on := 54, ground := Ground.guard }], guard := some (54, true) }) rfl (fun K hK => ?_) (by exact AllReadyH.nil)
  rw [if_pos (by rfl)]
  go_simp
  refine (num_any10 _ _).mono ?_
  rintro e wC ⟨rfl, rfl⟩
  refine hK.out _ _ (by (try dsimp only); (first | exact hBB | exact hBA | exact hB0)) (fun hHeld => ?_)
  clear hK K
  simp only [List.setIfInBounds_toArray, List.set_cons_zero, List.set_cons_succ]
  refine wpAnyH_take (i := 57) (oi := { dst := some 106, op := Op.binOp BinOp.eql 3 (Operand.tmp 105) (Operand.const (Value.int IntKind.i64 0)) 3, type := 4, pos := "law.go:25", after := #[{ on := 56, ground := Ground.data }, { on := 54, ground := Ground.guard }], guard := some (54, true) }) (v := ?vq57) rfl (by as_aux_lemma => kernel_rfl) (by as_aux_lemma => kernel_rfl) (by as_aux_lemma => kernel_rfl) (fun _ _ _ h => h) (Or.inl ⟨by rfl, ?yq57⟩) (by assumption) ?rq57
  case yq57 => (intro w hSw; (try dsimp only at hSw); have a0 := ha0 w hSw; have a1 := ha1 w hSw; have a2 := ha2 w hSw; have a3 := ha3 w hSw; have a4 := ha4 w hSw; have a5 := ha5 w hSw; have b0 := hb0 w hSw; have b1 := hb1 w hSw; have b2 := hb2 w hSw; have b3 := hb3 w hSw; have b4 := hb4 w hSw; have b5 := hb5 w hSw; have q0 := hq0 w hSw; have q1 := hq1 w hSw; have q2 := hq2 w hSw; have q3 := hq3 w hSw; have mm := hm w hSw; have cv := hcv w hSw; go_simp <;> with_reducible rfl)
  simp only [Act.put, List.setIfInBounds_toArray, List.set_cons_zero, List.set_cons_succ]
  refine wpAnyH_take (i := 58) (oi := { dst := some 107, op := Op.pick (Operand.tmp 103) (Operand.tmp 106) (Operand.const (Value.bool false)), type := 4, pos := "law.go:25", after := #[{ on := 54, ground := Ground.data }, { on := 57, ground := Ground.data }], guard := none }) (v := ?vq58) rfl (by as_aux_lemma => kernel_rfl) (by as_aux_lemma => kernel_rfl) (by as_aux_lemma => kernel_rfl) (fun _ _ _ h => h) (Or.inl ⟨by rfl, ?yq58⟩) (by assumption) ?rq58
  case yq58 => (intro w hSw; (try dsimp only at hSw); have a0 := ha0 w hSw; have a1 := ha1 w hSw; have a2 := ha2 w hSw; have a3 := ha3 w hSw; have a4 := ha4 w hSw; have a5 := ha5 w hSw; have b0 := hb0 w hSw; have b1 := hb1 w hSw; have b2 := hb2 w hSw; have b3 := hb3 w hSw; have b4 := hb4 w hSw; have b5 := hb5 w hSw; have q0 := hq0 w hSw; have q1 := hq1 w hSw; have q2 := hq2 w hSw; have q3 := hq3 w hSw; have mm := hm w hSw; have cv := hcv w hSw; go_simp <;> with_reducible rfl)
  simp only [Act.put, List.setIfInBounds_toArray, List.set_cons_zero, List.set_cons_succ]
  refine wpAnyH_take (i := 59) (oi := { dst := some 108, op := Op.move (Operand.tmp 107), type := 4, pos := "law.go:25", after := #[{ on := 58, ground := Ground.data }, { on := 56, ground := Ground.chain }], guard := none }) (v := ?vq59) rfl (by as_aux_lemma => kernel_rfl) (by as_aux_lemma => kernel_rfl) (by as_aux_lemma => kernel_rfl) (fun _ _ _ h => h) (Or.inl ⟨by rfl, ?yq59⟩) (by assumption) ?rq59
  case yq59 => (intro w hSw; (try dsimp only at hSw); have a0 := ha0 w hSw; have a1 := ha1 w hSw; have a2 := ha2 w hSw; have a3 := ha3 w hSw; have a4 := ha4 w hSw; have a5 := ha5 w hSw; have b0 := hb0 w hSw; have b1 := hb1 w hSw; have b2 := hb2 w hSw; have b3 := hb3 w hSw; have b4 := hb4 w hSw; have b5 := hb5 w hSw; have q0 := hq0 w hSw; have q1 := hq1 w hSw; have q2 := hq2 w hSw; have q3 := hq3 w hSw; have mm := hm w hSw; have cv := hcv w hSw; go_simp <;> with_reducible rfl)
  simp only [Act.put, List.setIfInBounds_toArray, List.set_cons_zero, List.set_cons_succ]
  refine wpAnyH_take (i := 60) (oi := { dst := some 109, op := Op.move (Operand.tmp 16), type := 47, pos := "law.go:25", after := #[{ on := 59, ground := Ground.guard }], guard := some (59, true) }) (v := ?vq60) rfl (by as_aux_lemma => kernel_rfl) (by as_aux_lemma => kernel_rfl) (by as_aux_lemma => kernel_rfl) (fun _ _ _ h => h) (Or.inl ⟨by rfl, ?yq60⟩) (by assumption) ?rq60
  case yq60 => (intro w hSw; (try dsimp only at hSw); have a0 := ha0 w hSw; have a1 := ha1 w hSw; have a2 := ha2 w hSw; have a3 := ha3 w hSw; have a4 := ha4 w hSw; have a5 := ha5 w hSw; have b0 := hb0 w hSw; have b1 := hb1 w hSw; have b2 := hb2 w hSw; have b3 := hb3 w hSw; have b4 := hb4 w hSw; have b5 := hb5 w hSw; have q0 := hq0 w hSw; have q1 := hq1 w hSw; have q2 := hq2 w hSw; have q3 := hq3 w hSw; have mm := hm w hSw; have cv := hcv w hSw; go_simp <;> with_reducible rfl)
  simp only [Act.put, List.setIfInBounds_toArray, List.set_cons_zero, List.set_cons_succ]
  refine wpAnyH_ready (rs := [61]) (by as_aux_lemma => kernel_rfl) (by simp) ?_
  refine AllReadyH.cons (o := { dst := some 110, op := Op.call { callee := Callee.value (Operand.func 27), args := #[Operand.tmp 109], argTypes := #[47] }, type := 3, pos := "law.go:25", after := #[{ on := 60, ground := Ground.data }, { on := 59, ground := Ground.chain }, { on := 59, ground := Ground.guard }], guard := some (59, true) }) rfl (fun K hK => ?_) (by exact AllReadyH.nil)
  rw [if_pos (by rfl)]
  go_simp
  refine (num_any10 _ _).mono ?_
  rintro e wD ⟨rfl, rfl⟩
  refine hK.out _ _ (by (try dsimp only); (first | exact hBB | exact hBA | exact hB0)) (fun hHeld => ?_)
  clear hK K
  simp only [List.setIfInBounds_toArray, List.set_cons_zero, List.set_cons_succ]
  refine wpAnyH_take (i := 62) (oi := { dst := some 111, op := Op.binOp BinOp.eql 3 (Operand.tmp 110) (Operand.const (Value.int IntKind.i64 200)) 3, type := 4, pos := "law.go:25", after := #[{ on := 61, ground := Ground.data }, { on := 59, ground := Ground.guard }], guard := some (59, true) }) (v := ?vq62) rfl (by as_aux_lemma => kernel_rfl) (by as_aux_lemma => kernel_rfl) (by as_aux_lemma => kernel_rfl) (fun _ _ _ h => h) (Or.inl ⟨by rfl, ?yq62⟩) (by assumption) ?rq62
  case yq62 => (intro w hSw; (try dsimp only at hSw); have a0 := ha0 w hSw; have a1 := ha1 w hSw; have a2 := ha2 w hSw; have a3 := ha3 w hSw; have a4 := ha4 w hSw; have a5 := ha5 w hSw; have b0 := hb0 w hSw; have b1 := hb1 w hSw; have b2 := hb2 w hSw; have b3 := hb3 w hSw; have b4 := hb4 w hSw; have b5 := hb5 w hSw; have q0 := hq0 w hSw; have q1 := hq1 w hSw; have q2 := hq2 w hSw; have q3 := hq3 w hSw; have mm := hm w hSw; have cv := hcv w hSw; go_simp <;> with_reducible rfl)
  simp only [Act.put, List.setIfInBounds_toArray, List.set_cons_zero, List.set_cons_succ]
  refine wpAnyH_take (i := 63) (oi := { dst := some 112, op := Op.pick (Operand.tmp 108) (Operand.tmp 111) (Operand.const (Value.bool false)), type := 4, pos := "law.go:25", after := #[{ on := 59, ground := Ground.data }, { on := 62, ground := Ground.data }], guard := none }) (v := ?vq63) rfl (by as_aux_lemma => kernel_rfl) (by as_aux_lemma => kernel_rfl) (by as_aux_lemma => kernel_rfl) (fun _ _ _ h => h) (Or.inl ⟨by rfl, ?yq63⟩) (by assumption) ?rq63
  case yq63 => (intro w hSw; (try dsimp only at hSw); have a0 := ha0 w hSw; have a1 := ha1 w hSw; have a2 := ha2 w hSw; have a3 := ha3 w hSw; have a4 := ha4 w hSw; have a5 := ha5 w hSw; have b0 := hb0 w hSw; have b1 := hb1 w hSw; have b2 := hb2 w hSw; have b3 := hb3 w hSw; have b4 := hb4 w hSw; have b5 := hb5 w hSw; have q0 := hq0 w hSw; have q1 := hq1 w hSw; have q2 := hq2 w hSw; have q3 := hq3 w hSw; have mm := hm w hSw; have cv := hcv w hSw; go_simp <;> with_reducible rfl)
  simp only [Act.put, List.setIfInBounds_toArray, List.set_cons_zero, List.set_cons_succ]
  refine wpAnyH_take (i := 64) (oi := { dst := some 0, op := Op.assign (Operand.tmp 112), type := 4, pos := "law.go:25", after := #[{ on := 63, ground := Ground.data }, { on := 61, ground := Ground.chain }, { on := 0, ground := Ground.phase }, { on := 1, ground := Ground.phase }, { on := 2, ground := Ground.phase }, { on := 3, ground := Ground.phase }, { on := 4, ground := Ground.phase }, { on := 5, ground := Ground.phase }, { on := 6, ground := Ground.phase }, { on := 7, ground := Ground.phase }, { on := 8, ground := Ground.phase }, { on := 9, ground := Ground.phase }, { on := 10, ground := Ground.phase }, { on := 11, ground := Ground.phase }, { on := 12, ground := Ground.phase }, { on := 13, ground := Ground.phase }, { on := 14, ground := Ground.phase }, { on := 15, ground := Ground.phase }, { on := 16, ground := Ground.phase }, { on := 17, ground := Ground.phase }, { on := 18, ground := Ground.phase }, { on := 19, ground := Ground.phase }, { on := 20, ground := Ground.phase }, { on := 21, ground := Ground.phase }, { on := 22, ground := Ground.phase }, { on := 23, ground := Ground.phase }, { on := 24, ground := Ground.phase }, { on := 25, ground := Ground.phase }, { on := 26, ground := Ground.phase }, { on := 27, ground := Ground.phase }, { on := 28, ground := Ground.phase }, { on := 29, ground := Ground.phase }, { on := 30, ground := Ground.phase }, { on := 31, ground := Ground.phase }, { on := 32, ground := Ground.phase }, { on := 33, ground := Ground.phase }, { on := 34, ground := Ground.phase }, { on := 35, ground := Ground.phase }, { on := 36, ground := Ground.phase }, { on := 37, ground := Ground.phase }, { on := 38, ground := Ground.phase }, { on := 39, ground := Ground.phase }, { on := 40, ground := Ground.phase }, { on := 41, ground := Ground.phase }, { on := 42, ground := Ground.phase }, { on := 43, ground := Ground.phase }, { on := 44, ground := Ground.phase }, { on := 45, ground := Ground.phase }, { on := 46, ground := Ground.phase }, { on := 47, ground := Ground.phase }, { on := 48, ground := Ground.phase }, { on := 49, ground := Ground.phase }, { on := 50, ground := Ground.phase }, { on := 51, ground := Ground.phase }, { on := 52, ground := Ground.phase }, { on := 53, ground := Ground.phase }, { on := 54, ground := Ground.phase }, { on := 55, ground := Ground.phase }, { on := 56, ground := Ground.phase }, { on := 57, ground := Ground.phase }, { on := 58, ground := Ground.phase }, { on := 59, ground := Ground.phase }, { on := 60, ground := Ground.phase }, { on := 61, ground := Ground.phase }, { on := 62, ground := Ground.phase }, { on := 63, ground := Ground.phase }], guard := none }) (v := ?vq64) rfl (by as_aux_lemma => kernel_rfl) (by as_aux_lemma => kernel_rfl) (by as_aux_lemma => kernel_rfl) (fun _ _ _ h => h) (Or.inl ⟨by rfl, ?yq64⟩) (by assumption) ?rq64
  case yq64 => (intro w hSw; (try dsimp only at hSw); have a0 := ha0 w hSw; have a1 := ha1 w hSw; have a2 := ha2 w hSw; have a3 := ha3 w hSw; have a4 := ha4 w hSw; have a5 := ha5 w hSw; have b0 := hb0 w hSw; have b1 := hb1 w hSw; have b2 := hb2 w hSw; have b3 := hb3 w hSw; have b4 := hb4 w hSw; have b5 := hb5 w hSw; have q0 := hq0 w hSw; have q1 := hq1 w hSw; have q2 := hq2 w hSw; have q3 := hq3 w hSw; have mm := hm w hSw; have cv := hcv w hSw; go_simp <;> with_reducible rfl)
  simp only [Act.put, List.setIfInBounds_toArray, List.set_cons_zero, List.set_cons_succ]
  refine wpAnyH_done (by as_aux_lemma => kernel_rfl) ?_ _
  have HE := Lib.hid (bstep HC.out.2.2.2.2.1 hBB)
  go_wp2_with fail
  go_ret
  exact ⟨rfl, HE.out⟩
end Go.Proofs.YtcdmaapjcckbmaaDoor

/- code's laws: CodeInfos. -/
namespace Go.Proofs.YtcdmaapjcckbmaaDoor
open Go.RowKit Go.Shelf

set_option maxRecDepth 100000 in
set_option maxHeartbeats 2000000 in
theorem infos_long (op : Nat) (s : ByteArray) (hs : 40 < s.size) (w : World) : Calls Tryd.prog 3 #[.int .u8 op, .string s] w fun e w' => e = .returned (.bool true) ∧ Below w.heap.size w w' := by
  have hi : (40 : Int) < (s.size : Int) := by omega
  have HW := Lib.hid (fun w => works_any10 w)
  clear hs
  go_enter Tryd.func3, Tryd.ntmps3
  go_wp2_with (first
    | (go_at_call 9; refine (HW.out _).mono ?_; rintro e w1 ⟨rfl, h1⟩)
    | fail)
  go_ret
  exact ⟨rfl, h1⟩
set_option maxRecDepth 100000 in
set_option maxHeartbeats 4000000 in
theorem infos_is (op : Nat) (hop : op < 256) (s : ByteArray) (hs : s.size ≤ 40) (hb : isO op = true) (w : World) : Calls Tryd.prog 3 #[.int .u8 op, .string s] w fun e w' => e = .returned (.bool true) ∧ Below w.heap.size w w' := by
  have hi : ¬ (40 : Int) < (s.size : Int) := by omega
  have HW := Lib.hid (fun w => works_any10 w)
  have HI := Lib.hid (fun w => info_any op hop w)
  have HR := Lib.hid (fun w => rinfo_any op hop w)
  have HN := Lib.hid (fun w => named_any s w)
  have HM := Lib.hid (fun w => rnamed_any s w)
  have HZ := Lib.hid (fun w => named_any (nmS op) w)
  have hnm := nm_all ⟨op, hop⟩
  simp only at hnm
  have hzs : nmS op = ⟨(oi op).nm.toArray⟩ := rfl
  have hse : (nmS op).toList.isEmpty = !isO op := by
    unfold isO nmS
    cases (oi op).nm <;> simp
  rw [hnm.1, hb] at HZ
  rw [hb] at HI hse
  rw [hnm.2 hb] at HZ
  unfold oiC at HI HR
  rw [← hzs] at HI HR
  clear hnm hzs hb hs hop
  generalize (oi op).i = xi at HI HR
  generalize (oi op).o = xo at HI HR
  generalize (oi op).g = xg at HI HR
  generalize (oi op).q = xq at HI HR
  generalize (oi op).z = xz at HI HR
  generalize nk s = a at *
  generalize nb s = c at *
  generalize nmS op = z at *
  go_enter Tryd.func3, Tryd.ntmps3
  go_upto_region 4 with (first
    | (go_at_call 10; refine (HI.out _).mono ?_; rintro e w1 ⟨rfl, h1⟩)
    | fail)
  have HB1 := Lib.hid (And.intro (Blk.new w1 25 #[.string z, .int .i64 (xi : Nat), .int .i64 (xo : Nat), .int .u64 (xg : Nat), .bool xq, .int .i64 (xz : Nat)]) (balloc h1 (.cells #[.string z, .int .i64 (xi : Nat), .int .i64 (xo : Nat), .int .u64 (xg : Nat), .bool xq, .int .i64 (xz : Nat)] 25)))
  clear h1
  generalize w1.alloc (.cells #[.string z, .int .i64 (xi : Nat), .int .i64 (xo : Nat), .int .u64 (xg : Nat), .bool xq, .int .i64 (xz : Nat)] 25) = V1 at *
  go_upto_region 5 with (first
    | (go_at_call 11; refine (HR.out _).mono ?_; rintro e w2 ⟨rfl, h2⟩)
    | fail)
  have HB2 := Lib.hid (And.intro ((HB1.out.1.keep h2).alloc (.cells #[.string z, .int .i64 (xi : Nat), .int .i64 (xo : Nat), .int .u64 (xg : Nat), .bool xq, .int .i64 (xz : Nat)] 25)) (And.intro (Blk.new w2 25 #[.string z, .int .i64 (xi : Nat), .int .i64 (xo : Nat), .int .u64 (xg : Nat), .bool xq, .int .i64 (xz : Nat)]) (balloc (bstep HB1.out.2 h2) (.cells #[.string z, .int .i64 (xi : Nat), .int .i64 (xo : Nat), .int .u64 (xg : Nat), .bool xq, .int .i64 (xz : Nat)] 25))))
  clear h2 HB1
  generalize w2.alloc (.cells #[.string z, .int .i64 (xi : Nat), .int .i64 (xo : Nat), .int .u64 (xg : Nat), .bool xq, .int .i64 (xz : Nat)] 25) = V2 at *
  go_upto_region 7 with (first
    | (go_at_call 12; refine (HN.out _).mono ?_; rintro e w3 ⟨rfl, h3⟩)
    | (go_at_call 13; refine (HM.out _).mono ?_; rintro e w4 ⟨rfl, h4⟩)
    | fail)
  have HB4 := Lib.hid (And.intro ((HB2.out.1.keep h3).keep h4) (And.intro ((HB2.out.2.1.keep h3).keep h4) (bstep (bstep HB2.out.2.2 h3) h4)))
  clear h3 h4 HB2
  have c7 : w4.cell? ⟨w2.heap.size, 0, none⟩ = some (.string z) := cell_of_row _ _ 0 _ _ _ HB4.out.2.1
  go_upto_region 8 with (first
    | (go_at_call 12; refine (HZ.out _).mono ?_; rintro e w5 ⟨rfl, h5⟩)
    | fail)
  have HB5 := Lib.hid (And.intro (HB4.out.1.keep h5) (And.intro (HB4.out.2.1.keep h5) (bstep HB4.out.2.2 h5)))
  clear h5 HB4 c7
  have ha0 : w5.cell? ⟨w1.heap.size, 0, none⟩ = some (.string z) := cell_of_row _ _ 0 _ _ _ HB5.out.1
  have ha1 : w5.cell? ⟨w1.heap.size, 1, none⟩ = some (.int .i64 (xi : Nat)) := cell_of_row _ _ 1 _ _ _ HB5.out.1
  have ha2 : w5.cell? ⟨w1.heap.size, 2, none⟩ = some (.int .i64 (xo : Nat)) := cell_of_row _ _ 2 _ _ _ HB5.out.1
  have ha3 : w5.cell? ⟨w1.heap.size, 3, none⟩ = some (.int .u64 (xg : Nat)) := cell_of_row _ _ 3 _ _ _ HB5.out.1
  have ha4 : w5.cell? ⟨w1.heap.size, 4, none⟩ = some (.bool xq) := cell_of_row _ _ 4 _ _ _ HB5.out.1
  have ha5 : w5.cell? ⟨w1.heap.size, 5, none⟩ = some (.int .i64 (xz : Nat)) := cell_of_row _ _ 5 _ _ _ HB5.out.1
  have hb0 : w5.cell? ⟨w2.heap.size, 0, none⟩ = some (.string z) := cell_of_row _ _ 0 _ _ _ HB5.out.2.1
  have hb1 : w5.cell? ⟨w2.heap.size, 1, none⟩ = some (.int .i64 (xi : Nat)) := cell_of_row _ _ 1 _ _ _ HB5.out.2.1
  have hb2 : w5.cell? ⟨w2.heap.size, 2, none⟩ = some (.int .i64 (xo : Nat)) := cell_of_row _ _ 2 _ _ _ HB5.out.2.1
  have hb3 : w5.cell? ⟨w2.heap.size, 3, none⟩ = some (.int .u64 (xg : Nat)) := cell_of_row _ _ 3 _ _ _ HB5.out.2.1
  have hb4 : w5.cell? ⟨w2.heap.size, 4, none⟩ = some (.bool xq) := cell_of_row _ _ 4 _ _ _ HB5.out.2.1
  have hb5 : w5.cell? ⟨w2.heap.size, 5, none⟩ = some (.int .i64 (xz : Nat)) := cell_of_row _ _ 5 _ _ _ HB5.out.2.1
  go_wp2_with (first
    | (go_at_call 9; refine (HW.out _).mono ?_; rintro e w6 ⟨rfl, h6⟩)
    | fail)
  go_ret
  exact ⟨rfl, bstep HB5.out.2.2 h6⟩
set_option maxRecDepth 100000 in
set_option maxHeartbeats 4000000 in
theorem infos_not (op : Nat) (hop : op < 256) (s : ByteArray) (hs : s.size ≤ 40) (hb : isO op = false) (w : World) : Calls Tryd.prog 3 #[.int .u8 op, .string s] w fun e w' => e = .returned (.bool true) ∧ Below w.heap.size w w' := by
  have hi : ¬ (40 : Int) < (s.size : Int) := by omega
  have HW := Lib.hid (fun w => works_any10 w)
  have HI := Lib.hid (fun w => info_any op hop w)
  have HR := Lib.hid (fun w => rinfo_any op hop w)
  have HN := Lib.hid (fun w => named_any s w)
  have HM := Lib.hid (fun w => rnamed_any s w)
  have HZ := Lib.hid (fun w => named_any (nmS op) w)
  have hnm := nm_all ⟨op, hop⟩
  simp only at hnm
  have hzs : nmS op = ⟨(oi op).nm.toArray⟩ := rfl
  have hse : (nmS op).toList.isEmpty = !isO op := by
    unfold isO nmS
    cases (oi op).nm <;> simp
  rw [hnm.1, hb] at HZ
  rw [hb] at HI hse
  unfold oiC at HI HR
  rw [← hzs] at HI HR
  clear hnm hzs hb hs hop
  generalize (oi op).i = xi at HI HR
  generalize (oi op).o = xo at HI HR
  generalize (oi op).g = xg at HI HR
  generalize (oi op).q = xq at HI HR
  generalize (oi op).z = xz at HI HR
  generalize nk s = a at *
  generalize nb s = c at *
  generalize nk (nmS op) = y at *
  generalize nmS op = z at *
  go_enter Tryd.func3, Tryd.ntmps3
  go_upto_region 4 with (first
    | (go_at_call 10; refine (HI.out _).mono ?_; rintro e w1 ⟨rfl, h1⟩)
    | fail)
  have HB1 := Lib.hid (And.intro (Blk.new w1 25 #[.string z, .int .i64 (xi : Nat), .int .i64 (xo : Nat), .int .u64 (xg : Nat), .bool xq, .int .i64 (xz : Nat)]) (balloc h1 (.cells #[.string z, .int .i64 (xi : Nat), .int .i64 (xo : Nat), .int .u64 (xg : Nat), .bool xq, .int .i64 (xz : Nat)] 25)))
  clear h1
  generalize w1.alloc (.cells #[.string z, .int .i64 (xi : Nat), .int .i64 (xo : Nat), .int .u64 (xg : Nat), .bool xq, .int .i64 (xz : Nat)] 25) = V1 at *
  go_upto_region 5 with (first
    | (go_at_call 11; refine (HR.out _).mono ?_; rintro e w2 ⟨rfl, h2⟩)
    | fail)
  have HB2 := Lib.hid (And.intro ((HB1.out.1.keep h2).alloc (.cells #[.string z, .int .i64 (xi : Nat), .int .i64 (xo : Nat), .int .u64 (xg : Nat), .bool xq, .int .i64 (xz : Nat)] 25)) (And.intro (Blk.new w2 25 #[.string z, .int .i64 (xi : Nat), .int .i64 (xo : Nat), .int .u64 (xg : Nat), .bool xq, .int .i64 (xz : Nat)]) (balloc (bstep HB1.out.2 h2) (.cells #[.string z, .int .i64 (xi : Nat), .int .i64 (xo : Nat), .int .u64 (xg : Nat), .bool xq, .int .i64 (xz : Nat)] 25))))
  clear h2 HB1
  generalize w2.alloc (.cells #[.string z, .int .i64 (xi : Nat), .int .i64 (xo : Nat), .int .u64 (xg : Nat), .bool xq, .int .i64 (xz : Nat)] 25) = V2 at *
  go_upto_region 7 with (first
    | (go_at_call 12; refine (HN.out _).mono ?_; rintro e w3 ⟨rfl, h3⟩)
    | (go_at_call 13; refine (HM.out _).mono ?_; rintro e w4 ⟨rfl, h4⟩)
    | fail)
  have HB4 := Lib.hid (And.intro ((HB2.out.1.keep h3).keep h4) (And.intro ((HB2.out.2.1.keep h3).keep h4) (bstep (bstep HB2.out.2.2 h3) h4)))
  clear h3 h4 HB2
  have c7 : w4.cell? ⟨w2.heap.size, 0, none⟩ = some (.string z) := cell_of_row _ _ 0 _ _ _ HB4.out.2.1
  go_upto_region 8 with (first
    | (go_at_call 12; refine (HZ.out _).mono ?_; rintro e w5 ⟨rfl, h5⟩)
    | fail)
  have HB5 := Lib.hid (And.intro (HB4.out.1.keep h5) (And.intro (HB4.out.2.1.keep h5) (bstep HB4.out.2.2 h5)))
  clear h5 HB4 c7
  have ha0 : w5.cell? ⟨w1.heap.size, 0, none⟩ = some (.string z) := cell_of_row _ _ 0 _ _ _ HB5.out.1
  have ha1 : w5.cell? ⟨w1.heap.size, 1, none⟩ = some (.int .i64 (xi : Nat)) := cell_of_row _ _ 1 _ _ _ HB5.out.1
  have ha2 : w5.cell? ⟨w1.heap.size, 2, none⟩ = some (.int .i64 (xo : Nat)) := cell_of_row _ _ 2 _ _ _ HB5.out.1
  have ha3 : w5.cell? ⟨w1.heap.size, 3, none⟩ = some (.int .u64 (xg : Nat)) := cell_of_row _ _ 3 _ _ _ HB5.out.1
  have ha4 : w5.cell? ⟨w1.heap.size, 4, none⟩ = some (.bool xq) := cell_of_row _ _ 4 _ _ _ HB5.out.1
  have ha5 : w5.cell? ⟨w1.heap.size, 5, none⟩ = some (.int .i64 (xz : Nat)) := cell_of_row _ _ 5 _ _ _ HB5.out.1
  have hb0 : w5.cell? ⟨w2.heap.size, 0, none⟩ = some (.string z) := cell_of_row _ _ 0 _ _ _ HB5.out.2.1
  have hb1 : w5.cell? ⟨w2.heap.size, 1, none⟩ = some (.int .i64 (xi : Nat)) := cell_of_row _ _ 1 _ _ _ HB5.out.2.1
  have hb2 : w5.cell? ⟨w2.heap.size, 2, none⟩ = some (.int .i64 (xo : Nat)) := cell_of_row _ _ 2 _ _ _ HB5.out.2.1
  have hb3 : w5.cell? ⟨w2.heap.size, 3, none⟩ = some (.int .u64 (xg : Nat)) := cell_of_row _ _ 3 _ _ _ HB5.out.2.1
  have hb4 : w5.cell? ⟨w2.heap.size, 4, none⟩ = some (.bool xq) := cell_of_row _ _ 4 _ _ _ HB5.out.2.1
  have hb5 : w5.cell? ⟨w2.heap.size, 5, none⟩ = some (.int .i64 (xz : Nat)) := cell_of_row _ _ 5 _ _ _ HB5.out.2.1
  go_wp2_with (first
    | (go_at_call 9; refine (HW.out _).mono ?_; rintro e w6 ⟨rfl, h6⟩)
    | fail)
  go_ret
  exact ⟨rfl, bstep HB5.out.2.2 h6⟩
end Go.Proofs.YtcdmaapjcckbmaaDoor

/- code's cards: the library's tables as they are laid; arguments opened. -/
namespace Go.Proofs.YtcdmaapjcckbmaaDoor
open Go.RowKit Go.ChangeShapes Go.WideShapes Go.ChangeAt

theorem own : ownKnob Tryd.prog.godebug = none := by kernel_rfl
/-- What a call that only makes memory owes its row (nothing is said of a second call). -/
theorem post_of_below {H : Type} {enc : TypeId × Value → H} {P : Program} {f : Func} {s : ChangeSpec} {apart fresh handsOn : Bool} {W W' : World} {args : Array Value} {v : Value} {ds gs : List (DataW H)} {before pa pv : List MemPlace}
    (hW : DataW.Whole enc P f.params.toList s.vars apart W args.toList ds gs before)
    (hres : ∀ (b : Nat) (sp : Nat → Bool) (hd : Bool), DataW.TrodAll enc P W' b sp hd f.resultTypes.toList (v.resultList f.resultTypes.size) (s.fn H (ds ++ gs)).results [])
    (hargs : ∀ sp : Nat → Bool, (∀ p ∈ before, sp p.block = true) → DataW.TrodAll enc P W' 0 sp true f.params.toList args.toList (s.fn H (ds ++ gs)).args pa)
    (hvars : ∀ sp : Nat → Bool, (∀ p ∈ before, sp p.block = true) → DataW.TrodVars enc P W' sp s.vars (s.fn H (ds ++ gs)).vars pv)
    (hps : before = pa ++ pv) (hk : W.keptBut W' (· ∈ before)) : s.post enc P f apart fresh handsOn false W args v W' := by
  have hold : ∀ p ∈ before, (fun b => decide (b < W.heap.size)) p.block = true := fun p hp => by simpa using hW.lt p hp
  refine ⟨ds, gs, before, [], pa, pv, hW, hres _ _ _, hargs _ hold, hvars _ hold, World.keptBut_mono (fun p hp => ⟨hp, ?_⟩) hk, fun h => by cases h⟩
  rw [hps, List.mem_append] at hp
  exact Or.inr hp
def setC (C : Array Value) : Obj → Obj
  | .cells _ t frozen => .cells C t frozen
  | o => o
/-- A WORLD FOR THE WITNESS: the settled one, the two tables of the library holding what they are laid with. -/
def firstC : Array Value := (Go.Pinned.utf8FirstZ.map fun z => Value.int .u8 (z : Nat)).toArray
def rangesC : Array Value := #[.int .u8 128, .int .u8 191, .int .u8 160, .int .u8 191, .int .u8 128, .int .u8 159, .int .u8 144, .int .u8 191, .int .u8 128, .int .u8 143, .int .u8 0, .int .u8 0, .int .u8 0, .int .u8 0, .int .u8 0, .int .u8 0, .int .u8 0, .int .u8 0, .int .u8 0, .int .u8 0, .int .u8 0, .int .u8 0, .int .u8 0, .int .u8 0, .int .u8 0, .int .u8 0, .int .u8 0, .int .u8 0, .int .u8 0, .int .u8 0, .int .u8 0, .int .u8 0]
/-- What a call that only makes memory owes its row, where an argument lies in memory. -/
theorem post_of_kept {H : Type} {enc : TypeId × Value → H} {P : Program} {f : Func} {s : ChangeSpec} {apart fresh handsOn : Bool} {W W' : World} {args : Array Value} {v : Value} {ds gs : List (DataW H)} {before : List MemPlace}
    (hW : DataW.Whole enc P f.params.toList s.vars apart W args.toList ds gs before)
    (hres : ∀ (b : Nat) (sp : Nat → Bool) (hd : Bool), DataW.TrodAll enc P W' b sp hd f.resultTypes.toList (v.resultList f.resultTypes.size) (s.fn H (ds ++ gs)).results [])
    (hargs : DataW.TrodAll enc P W' 0 (fun b => decide (b < W.heap.size)) true f.params.toList args.toList (s.fn H (ds ++ gs)).args before)
    (hvars : DataW.TrodVars enc P W' (fun b => decide (b < W.heap.size)) s.vars (s.fn H (ds ++ gs)).vars [])
    (hk : W.keptBut W' (· ∈ before)) : s.post enc P f apart fresh handsOn false W args v W' := by
  refine ⟨ds, gs, before, [], before, [], hW, hres _ _ _, hargs, hvars, World.keptBut_mono (fun p hp => ⟨hp, ?_⟩) hk, fun h => by cases h⟩
  exact Or.inr (Or.inl hp)
def tab32C : Array Value := #[.int .u8 0, .int .u8 1, .int .u8 28, .int .u8 2, .int .u8 29, .int .u8 14, .int .u8 24, .int .u8 3, .int .u8 30, .int .u8 22, .int .u8 20, .int .u8 15, .int .u8 25, .int .u8 17, .int .u8 4, .int .u8 8, .int .u8 31, .int .u8 27, .int .u8 13, .int .u8 23, .int .u8 21, .int .u8 19, .int .u8 16, .int .u8 7, .int .u8 26, .int .u8 12, .int .u8 18, .int .u8 6, .int .u8 11, .int .u8 5, .int .u8 10, .int .u8 9]
def tab64C : Array Value := (Lib.deBruijn64tab.map fun z => Value.int .u8 (z : Nat)).toArray
def powC : Array Value := #[.int .u64 1, .int .u64 10, .int .u64 100, .int .u64 1000, .int .u64 10000, .int .u64 100000, .int .u64 1000000, .int .u64 10000000, .int .u64 100000000, .int .u64 1000000000, .int .u64 10000000000, .int .u64 100000000000, .int .u64 1000000000000, .int .u64 10000000000000, .int .u64 100000000000000, .int .u64 1000000000000000, .int .u64 10000000000000000, .int .u64 100000000000000000, .int .u64 1000000000000000000, .int .u64 10000000000000000000]
noncomputable def laidW (os : Os) : World :=
  { World.holding Tryd.prog os ⟨#[], #[], []⟩ with heap := ((((((World.holding Tryd.prog os ⟨#[], #[], []⟩).heap.modify 2 (setC tab32C)).modify 3 (setC tab64C)).modify 0 (setC powC)).modify 5 (setC rangesC)).modify 4 (setC firstC)) }
set_option maxRecDepth 100000 in
theorem infos_all {H : Type} {enc : TypeId × Value → H} {X : World} {base base2 : Nat} {sp sp2 : Nat → Bool} {held held2 : Bool} {r r2 : Reach} {b0 b2 : Nat} {v0 v1 : Value} {d0 d1 : DataW H} {p0 p1 : List MemPlace} (hv0 : Value.okWide Tryd.prog X r b0 5 v0) (h0 : DataW.Trod enc Tryd.prog X base sp held 5 v0 d0 p0) (hv1 : Value.okWide Tryd.prog X r2 b2 9 v1) (h1 : DataW.Trod enc Tryd.prog X base2 sp2 held2 9 v1 d1 p1) :
    Calls Tryd.prog 3 #[v0, v1] X fun e w' => e = .returned (.bool true) ∧ Below X.heap.size X w' := by
  obtain ⟨n, rfl, _, _, hn⟩ := open_int Tryd.underlying5 hv0 h0
  obtain ⟨s, rfl, _, _, _⟩ := Go.ChangeMaps.open_string (P := Tryd.prog) (t := 9) (by kernel_rfl) hv1 h1
  have hz := bounds_u8 hn
  obtain ⟨q, rfl⟩ := Int.eq_ofNat_of_zero_le hz.1
  by_cases hs : s.size ≤ 40
  · cases hb : isO q with
    | true => exact infos_is q (by omega) s hs hb X
    | false => exact infos_not q (by omega) s hs hb X
  · exact infos_long q s (by omega) X
end Go.Proofs.YtcdmaapjcckbmaaDoor

