/- split's law: works: the walk up to its last line. -/
import Derived.Test.YthdapmceafnhgaaTj
import Derived.Laws.BytesArg
namespace Go.Proofs.Ythdapmceafnhgaa
open Go.RowKit Go.Shelf
attribute [local go_sem] ix0 ix1 ix2 ix3
attribute [local go_sem] Oper.semAt_some
attribute [local irreducible] lb mdN
/-- The text of the steps of 12 and 18 so far. -/
def stN (k : Nat) : ByteArray := ⟨((#[109, 115, 109, 103] : Array UInt8).toList.take k).toArray⟩

theorem conv1 (X : World) (c : Int) (s : ByteArray) (hs : strOfNums [c] = s) : (convert 41 9 (.slice (some ⟨X.heap.size, 0, none⟩) 1 1)).run Try.prog (X.alloc (.cells #[.int .u8 c] 5)) = .ok (.string s) (X.alloc (.cells #[.int .u8 c] 5)) := by
  have hb := Blk.new X 5 #[.int .u8 c]
  have h := run_convert_bytes_arg (P := Try.prog) (X.alloc (.cells #[.int .u8 c] 5)) 41 5 (by kernel_rfl) (by kernel_rfl) X.heap.size 0 1 1 [c] rfl (fun i hi => by
    obtain rfl : i = 0 := by omega
    exact cell_of_row _ _ 0 _ _ _ hb) 9 (by kernel_rfl)
  rwa [hs] at h

set_option maxRecDepth 100000 in
set_option maxHeartbeats 4000000 in
theorem works_any (w : World) :
    Calls Try.prog 6 #[] w fun e w' => e = .returned (.bool true) ∧ Below w.heap.size w w' := by
  have hnil : ∀ (p q : Value) w, (binOp .eql 28 (.func (.func 8) #[] #[p, q]) .nilFunc).run Try.prog w = .ok (.bool false) w := fun _ _ _ => by kernel_rfl
  refine (callsIn_wide (n := 20)).1 ?_
  refine callsIn_of_wp_marks Try.func6 rfl trivial ?_ rfl
  simp only [Try.ntmps6, List.size_toArray, List.length_nil, Nat.reduceSub, Array.replicate_succ, Array.replicate_zero, List.push_toArray, List.append_toArray, List.nil_append, List.cons_append]
  refine (wpIn_wide (n := 20)).2 ?_
  go_wp2_with fail
  refine (rof_int 1 _).mono ?_
  rintro e w1 ⟨rfl, h1⟩
  go_wp2_with fail
  refine (rof_int 2 _).mono ?_
  rintro e w2 ⟨rfl, h2⟩
  go_wp2_with fail
  refine (rof_int 4 _).mono ?_
  rintro e w3 ⟨rfl, h3⟩
  go_wp2_with fail
  refine (rof_int 7 _).mono ?_
  rintro e w4 ⟨rfl, h4⟩
  have hB := bstep (bstep (bstep h1 h2) h3) h4
  clear h1 h2 h3 h4
  dsimp only
  iterate 7 go_step
  have hz := Blk.new w4 40 #[.int .u64 0, .int .u64 0, .int .u64 0, .int .u64 0, .int .u64 0, .int .u64 0, .int .u64 0, .int .u64 0, .int .u64 0, .int .u64 0, .int .u64 0, .int .u64 0, .int .u64 0, .int .u64 0, .int .u64 0, .int .u64 0, .int .u64 0, .int .u64 0, .int .u64 0, .int .u64 0]
  have hi5 : (Try.prog.info? 40).map (·.size) = some (#[.int .u64 0, .int .u64 0, .int .u64 0, .int .u64 0, .int .u64 1, .int .u64 0, .int .u64 0, .int .u64 0, .int .u64 2, .int .u64 0, .int .u64 0, .int .u64 0, .int .u64 4, .int .u64 0, .int .u64 0, .int .u64 0, .int .u64 7, .int .u64 0, .int .u64 0, .int .u64 0] : Array Value).size := by kernel_rfl
  refine wpList_store_mid rfl 40 (Operand.tmp 1) (Operand.tmp 10) rfl w4.heap.size 0 #[.int .u64 0, .int .u64 0, .int .u64 0, .int .u64 0, .int .u64 1, .int .u64 0, .int .u64 0, .int .u64 0, .int .u64 2, .int .u64 0, .int .u64 0, .int .u64 0, .int .u64 4, .int .u64 0, .int .u64 0, .int .u64 0, .int .u64 7, .int .u64 0, .int .u64 0, .int .u64 0] rfl rfl (hz.there _ (by decide)) hi5 (by kernel_rfl) ?_
  have hO := blk_setCells hz #[.int .u64 0, .int .u64 0, .int .u64 0, .int .u64 0, .int .u64 1, .int .u64 0, .int .u64 0, .int .u64 0, .int .u64 2, .int .u64 0, .int .u64 0, .int .u64 0, .int .u64 4, .int .u64 0, .int .u64 0, .int .u64 0, .int .u64 7, .int .u64 0, .int .u64 0, .int .u64 0] (by decide) (by kernel_rfl)
  have hog := hB.size
  have hB1 := below_setCells' hog (#[.int .u64 0, .int .u64 0, .int .u64 0, .int .u64 0, .int .u64 1, .int .u64 0, .int .u64 0, .int .u64 0, .int .u64 2, .int .u64 0, .int .u64 0, .int .u64 0, .int .u64 4, .int .u64 0, .int .u64 0, .int .u64 0, .int .u64 7, .int .u64 0, .int .u64 0, .int .u64 0] : Array Value).toList 0 _ (balloc hB (.cells #[.int .u64 0, .int .u64 0, .int .u64 0, .int .u64 0, .int .u64 0, .int .u64 0, .int .u64 0, .int .u64 0, .int .u64 0, .int .u64 0, .int .u64 0, .int .u64 0, .int .u64 0, .int .u64 0, .int .u64 0, .int .u64 0, .int .u64 0, .int .u64 0, .int .u64 0, .int .u64 0] 40))
  obtain ⟨X0, hX0⟩ : ∃ X0, (w4.alloc (.cells #[.int .u64 0, .int .u64 0, .int .u64 0, .int .u64 0, .int .u64 0, .int .u64 0, .int .u64 0, .int .u64 0, .int .u64 0, .int .u64 0, .int .u64 0, .int .u64 0, .int .u64 0, .int .u64 0, .int .u64 0, .int .u64 0, .int .u64 0, .int .u64 0, .int .u64 0, .int .u64 0] 40)).setCells w4.heap.size 0 (#[.int .u64 0, .int .u64 0, .int .u64 0, .int .u64 0, .int .u64 1, .int .u64 0, .int .u64 0, .int .u64 0, .int .u64 2, .int .u64 0, .int .u64 0, .int .u64 0, .int .u64 4, .int .u64 0, .int .u64 0, .int .u64 0, .int .u64 7, .int .u64 0, .int .u64 0, .int .u64 0] : Array Value).toList = X0 := ⟨_, rfl⟩
  rw [hX0] at hO hB1 ⊢
  clear hX0 hz hi5 hB
  generalize w4.heap.size = og at hO hog ⊢
  have HO := Lib.hid hO
  clear hO
  go_wp2_with fail
  refine (rof_int 12 _).mono ?_
  rintro e w5 ⟨rfl, h5⟩
  go_wp2_with fail
  refine (rof_int 18 _).mono ?_
  rintro e w6 ⟨rfl, h6⟩
  go_wp2_with fail
  refine (steps_works _).mono ?_
  rintro e V ⟨rfl, rfl⟩
  have bO := ((((HO.out.alloc (.cells #[.string ⟨#[]⟩] 9)).block_below h5).block_below h6).alloc (.cells (Wc 12) 24)).alloc (.cells (Wc 18) 24)
  have bS := ((((Blk.new X0 9 #[.string ⟨#[]⟩]).block_below h5).block_below h6).alloc (.cells (Wc 12) 24)).alloc (.cells (Wc 18) 24)
  have b12 := (Blk.new w6 24 (Wc 12)).alloc (.cells (Wc 18) 24)
  have b18 := Blk.newS w6 (.cells (Wc 12) 24) 24 (Wc 18)
  have hW := balloc (balloc (bstep (bstep (balloc hB1 (.cells #[.string ⟨#[]⟩] 9)) h5) h6) (.cells (Wc 12) 24)) (.cells (Wc 18) 24)
  have hos := HO.out.lt
  clear h5 h6 HO
  have hw0 := hB1.size
  clear hB1
  go_wp2_with fail
  obtain ⟨W0, hW0⟩ : ∃ W0, (w6.alloc (.cells (Wc 12) 24)).alloc (.cells (Wc 18) 24) = W0 := ⟨_, rfl⟩
  rw [hW0] at bO bS b12 b18 hW ⊢
  clear hW0
  generalize w6.heap.size = g12 at b12 b18 ⊢
  generalize X0.heap.size = sg at bS hos hw0 ⊢
  refine (wpIn_wide (n := 20)).1 ?_
  refine wpIn_rangeB (n := 20) (by omega) (gf := 8) (lb := #[.pointer (some ⟨g12, 0, none⟩), .pointer (some ⟨g12 + 1, 0, none⟩)]) rfl (enters_of Try.func8 (by kernel_rfl) rfl)
    (steps_seq (20 - 1) w.heap.size g12 (g12 + 1) 12 18 (by omega) (m_lt _ (by decide)) (m_lt _ (by decide)) W0 hW.size b12 b18) (Below.refl _ _) hW.size (fun _ => rfl)
    (fun pre X => (Blk X og 40 #[.int .u64 0, .int .u64 0, .int .u64 0, .int .u64 0, .int .u64 1, .int .u64 0, .int .u64 0, .int .u64 0, .int .u64 2, .int .u64 0, .int .u64 0, .int .u64 0, .int .u64 4, .int .u64 0, .int .u64 0, .int .u64 0, .int .u64 7, .int .u64 0, .int .u64 0, .int .u64 0] ∧ Blk X sg 9 #[.string (stN pre.length)]) ∧ Below w.heap.size w X)
    (fun _ _ _ => False)
    (((Abide.blk bO.lt _ (fun _ => _)).and (Abide.blk bS.lt _ (fun (pre : List Nat) => #[.string (stN pre.length)]))).and (Abide.below (Nat.le_refl _) hW.size))
    (fun _ _ _ _ _ hs _ _ => hs) (fun _ _ _ => trivial) ⟨⟨bO, bS⟩, hW⟩
    (fun x a' X => ∃ Bx, Blk X Bx 24 (Wc (eu 12 18 x)) ∧ a' = { tmps := #[.bool false, .pointer (some ⟨og, 0, none⟩), .pointer (some ⟨sg, 0, none⟩), .func (.func 8) #[] #[.pointer (some ⟨g12, 0, none⟩), .pointer (some ⟨g12 + 1, 0, none⟩)], .pointer (some ⟨Bx, 0, none⟩), .agg #[.int .u64 0, .int .u64 0, .int .u64 0, .int .u64 0], .agg #[.int .u64 1, .int .u64 0, .int .u64 0, .int .u64 0], .agg #[.int .u64 2, .int .u64 0, .int .u64 0, .int .u64 0], .agg #[.int .u64 4, .int .u64 0, .int .u64 0, .int .u64 0], .agg #[.int .u64 7, .int .u64 0, .int .u64 0, .int .u64 0], .agg #[.int .u64 0, .int .u64 0, .int .u64 0, .int .u64 0, .int .u64 1, .int .u64 0, .int .u64 0, .int .u64 0, .int .u64 2, .int .u64 0, .int .u64 0, .int .u64 0, .int .u64 4, .int .u64 0, .int .u64 0, .int .u64 0, .int .u64 7, .int .u64 0, .int .u64 0, .int .u64 0], .agg #[.int .u64 12, .int .u64 0, .int .u64 0, .int .u64 0], .agg #[.int .u64 18, .int .u64 0, .int .u64 0, .int .u64 0], .func (.func 8) #[] #[.pointer (some ⟨g12, 0, none⟩), .pointer (some ⟨g12 + 1, 0, none⟩)], .func (.func 8) #[] #[.pointer (some ⟨g12, 0, none⟩), .pointer (some ⟨g12 + 1, 0, none⟩)], .bool false, .func (.func 8) #[] #[.pointer (some ⟨g12, 0, none⟩), .pointer (some ⟨g12 + 1, 0, none⟩)], W (eu 12 18 x), undef, undef, undef, undef, undef, undef, undef, undef, undef, undef, undef, undef, undef, undef, undef, undef, undef, undef, undef, undef, undef, undef, undef, undef, undef, undef, undef, undef, undef, undef, undef, undef, undef, undef, undef, undef, undef, undef, undef, undef, undef, undef, undef, undef, undef, undef, undef, undef, undef, undef, undef, undef, undef, undef, undef, undef, undef, undef, undef, undef, undef, undef, undef, undef, undef, undef, undef, undef], defers := [] })
    (fun x a' _ X Y row hs hg hr => by obtain ⟨Bx, h1, h2⟩ := hs; exact ⟨Bx, blk_cells h1 hg (fun r e => (hr r e).2), h2⟩)
    ?assign ?body ?done ?stop
  case assign =>
    rintro l2 pre x X K _ hi hK
    gi_wp2
    exact hK _ _ (Kept.alloc _ _ _) ((Below.refl _ X).alloc hi.2.size _) ⟨⟨hi.1.1.alloc _, hi.1.2.alloc _⟩, balloc hi.2 _⟩ ⟨X.heap.size, Blk.new X _ _, rfl⟩
  case body =>
    rintro l2 pre x a' X hl2 ⟨hp, hnz⟩ _ ⟨⟨hO, hS⟩, hB⟩ ⟨Bx, hBx, rfl⟩
    have hx4 : x < 4 := by
      refine Classical.byContradiction fun hc => hnz 4 (by omega) (by decide +kernel)
    clear hnz
    have hOl := bO.lt
    have hSl := bS.lt
    have HO := Lib.hid hO
    have HB := Lib.hid hB
    have HBX := Lib.hid hBx
    have HS := Lib.hid hS
    clear hO hB hBx hS bO bS b12 b18 hW
    have hx : x = 0 ∨ x = 1 ∨ x = 2 ∨ x = 3 := by omega
    clear hx4
    rcases hx with rfl | rfl | rfl | rfl
    all_goals subst hp
    · have cx := (cell_of_row X _ 0 _ _ _ HBX.out).trans (show (Wc (eu 12 18 0))[0]? = some (.int .u64 12) from congrArg (fun z => some (Value.int .u64 z)) (show lb (eu 12 18 0) 0 = 12 by decide +kernel))
      have cs := (cell_of_row X _ 0 _ _ _ HS.out).trans (show (#[.string (stN (List.range 0).length)] : Array Value)[0]? = some (.string ⟨#[]⟩) by kernel_rfl)
      have fs := frozen_of_row X _ 0 _ _ HS.out
      have hcv := conv1 X 109 ⟨#[109]⟩ (by kernel_rfl)
      have hSX := HS.out.lt
      gi_wp2
      have hS2 := heap_setCell_same _ sg 0 _ _ (.string (⟨#[]⟩ ++ ⟨#[109]⟩)) HS.out
      have hS3 : Blk (X.setCell ⟨sg, 0, none⟩ (.string (⟨#[]⟩ ++ ⟨#[109]⟩))) sg 9 #[.string (stN (List.range 0 ++ [0]).length)] := hS2.trans (by kernel_rfl)
      exact ⟨(Kept.set X (p := ⟨sg, 0, none⟩) hSl _).trans (Kept.alloc _ _ _), ((Below.refl _ X).setCell (p := ⟨sg, 0, none⟩) hw0 _).alloc (by simpa [World.setCell] using HB.out.size) _, ⟨⟨(HO.out.kept (grown_set' (grown_refl X sg) 0 _) (fun e => by cases e; omega)).alloc _, hS3.alloc _⟩, (HB.out.setCell (p := ⟨sg, 0, none⟩) hw0 _).alloc (by simpa [World.setCell] using HB.out.size) _⟩⟩
    · have cx := (cell_of_row X _ 0 _ _ _ HBX.out).trans (show (Wc (eu 12 18 1))[0]? = some (.int .u64 18) from congrArg (fun z => some (Value.int .u64 z)) (show lb (eu 12 18 1) 0 = 18 by decide +kernel))
      have cs := (cell_of_row X _ 0 _ _ _ HS.out).trans (show (#[.string (stN (List.range 1).length)] : Array Value)[0]? = some (.string ⟨#[109]⟩) by kernel_rfl)
      have fs := frozen_of_row X _ 0 _ _ HS.out
      have hcv := conv1 X 115 ⟨#[115]⟩ (by kernel_rfl)
      have hSX := HS.out.lt
      gi_wp2
      have hS2 := heap_setCell_same _ sg 0 _ _ (.string (⟨#[109]⟩ ++ ⟨#[115]⟩)) HS.out
      have hS3 : Blk (X.setCell ⟨sg, 0, none⟩ (.string (⟨#[109]⟩ ++ ⟨#[115]⟩))) sg 9 #[.string (stN (List.range 1 ++ [1]).length)] := hS2.trans (by kernel_rfl)
      exact ⟨(Kept.set X (p := ⟨sg, 0, none⟩) hSl _).trans (Kept.alloc _ _ _), ((Below.refl _ X).setCell (p := ⟨sg, 0, none⟩) hw0 _).alloc (by simpa [World.setCell] using HB.out.size) _, ⟨⟨(HO.out.kept (grown_set' (grown_refl X sg) 0 _) (fun e => by cases e; omega)).alloc _, hS3.alloc _⟩, (HB.out.setCell (p := ⟨sg, 0, none⟩) hw0 _).alloc (by simpa [World.setCell] using HB.out.size) _⟩⟩
    · have cx := (cell_of_row X _ 0 _ _ _ HBX.out).trans (show (Wc (eu 12 18 2))[0]? = some (.int .u64 12) from congrArg (fun z => some (Value.int .u64 z)) (show lb (eu 12 18 2) 0 = 12 by decide +kernel))
      have cs := (cell_of_row X _ 0 _ _ _ HS.out).trans (show (#[.string (stN (List.range 2).length)] : Array Value)[0]? = some (.string ⟨#[109, 115]⟩) by kernel_rfl)
      have fs := frozen_of_row X _ 0 _ _ HS.out
      have hcv := conv1 X 109 ⟨#[109]⟩ (by kernel_rfl)
      have hSX := HS.out.lt
      gi_wp2
      have hS2 := heap_setCell_same _ sg 0 _ _ (.string (⟨#[109, 115]⟩ ++ ⟨#[109]⟩)) HS.out
      have hS3 : Blk (X.setCell ⟨sg, 0, none⟩ (.string (⟨#[109, 115]⟩ ++ ⟨#[109]⟩))) sg 9 #[.string (stN (List.range 2 ++ [2]).length)] := hS2.trans (by kernel_rfl)
      exact ⟨(Kept.set X (p := ⟨sg, 0, none⟩) hSl _).trans (Kept.alloc _ _ _), ((Below.refl _ X).setCell (p := ⟨sg, 0, none⟩) hw0 _).alloc (by simpa [World.setCell] using HB.out.size) _, ⟨⟨(HO.out.kept (grown_set' (grown_refl X sg) 0 _) (fun e => by cases e; omega)).alloc _, hS3.alloc _⟩, (HB.out.setCell (p := ⟨sg, 0, none⟩) hw0 _).alloc (by simpa [World.setCell] using HB.out.size) _⟩⟩
    · have cx := (cell_of_row X _ 0 _ _ _ HBX.out).trans (show (Wc (eu 12 18 3))[0]? = some (.int .u64 6) from congrArg (fun z => some (Value.int .u64 z)) (show lb (eu 12 18 3) 0 = 6 by decide +kernel))
      have cs := (cell_of_row X _ 0 _ _ _ HS.out).trans (show (#[.string (stN (List.range 3).length)] : Array Value)[0]? = some (.string ⟨#[109, 115, 109]⟩) by kernel_rfl)
      have fs := frozen_of_row X _ 0 _ _ HS.out
      have hcv := conv1 X 103 ⟨#[103]⟩ (by kernel_rfl)
      have hSX := HS.out.lt
      gi_wp2
      have hS2 := heap_setCell_same _ sg 0 _ _ (.string (⟨#[109, 115, 109]⟩ ++ ⟨#[103]⟩)) HS.out
      have hS3 : Blk (X.setCell ⟨sg, 0, none⟩ (.string (⟨#[109, 115, 109]⟩ ++ ⟨#[103]⟩))) sg 9 #[.string (stN (List.range 3 ++ [3]).length)] := hS2.trans (by kernel_rfl)
      exact ⟨(Kept.set X (p := ⟨sg, 0, none⟩) hSl _).trans (Kept.alloc _ _ _), ((Below.refl _ X).setCell (p := ⟨sg, 0, none⟩) hw0 _).alloc (by simpa [World.setCell] using HB.out.size) _, ⟨⟨(HO.out.kept (grown_set' (grown_refl X sg) 0 _) (fun e => by cases e; omega)).alloc _, hS3.alloc _⟩, (HB.out.setCell (p := ⟨sg, 0, none⟩) hw0 _).alloc (by simpa [World.setCell] using HB.out.size) _⟩⟩
  case done =>
    rintro D xs X hD ⟨N, rfl, hN0, hN1⟩ ⟨⟨hO, hS⟩, hB⟩ hK
    have hN : N = 4 := by
      have h1 : ¬ 4 < N := fun h => hN1 4 h (by decide +kernel)
      have h2 : ¬ N < 4 := fun h => by
        have h3 : N = 0 ∨ N = 1 ∨ N = 2 ∨ N = 3 := by omega
        rcases h3 with rfl | rfl | rfl | rfl
        all_goals exact absurd hN0 (by decide +kernel)
      omega
    subst hN
    clear hN0 hN1 b12 b18
    rename_i K1 hK1
    refine hK1 _ _ ?_
    have hWD : w.heap.size ≤ D := Nat.le_trans hW.size hD
    clear hK1 K1 hnil bO bS hW
    go_upto_region 9 with fail
    have hDX : D < X.heap.size := (Array.getElem?_eq_some_iff.1 hK).1
    have cO0 : ∀ w', Below X.heap.size X w' → w'.cell? ⟨og, 0, none⟩ = some (.int .u64 0) := fun w' h => (cell_of_row _ _ 0 _ _ _ (hO.block_below h)).trans rfl
    have cO1 : ∀ w', Below X.heap.size X w' → w'.cell? ⟨og, 1, none⟩ = some (.int .u64 0) := fun w' h => (cell_of_row _ _ 1 _ _ _ (hO.block_below h)).trans rfl
    have cO2 : ∀ w', Below X.heap.size X w' → w'.cell? ⟨og, 2, none⟩ = some (.int .u64 0) := fun w' h => (cell_of_row _ _ 2 _ _ _ (hO.block_below h)).trans rfl
    have cO3 : ∀ w', Below X.heap.size X w' → w'.cell? ⟨og, 3, none⟩ = some (.int .u64 0) := fun w' h => (cell_of_row _ _ 3 _ _ _ (hO.block_below h)).trans rfl
    have cO4 : ∀ w', Below X.heap.size X w' → w'.cell? ⟨og, 4, none⟩ = some (.int .u64 1) := fun w' h => (cell_of_row _ _ 4 _ _ _ (hO.block_below h)).trans rfl
    have cO5 : ∀ w', Below X.heap.size X w' → w'.cell? ⟨og, 5, none⟩ = some (.int .u64 0) := fun w' h => (cell_of_row _ _ 5 _ _ _ (hO.block_below h)).trans rfl
    have cO6 : ∀ w', Below X.heap.size X w' → w'.cell? ⟨og, 6, none⟩ = some (.int .u64 0) := fun w' h => (cell_of_row _ _ 6 _ _ _ (hO.block_below h)).trans rfl
    have cO7 : ∀ w', Below X.heap.size X w' → w'.cell? ⟨og, 7, none⟩ = some (.int .u64 0) := fun w' h => (cell_of_row _ _ 7 _ _ _ (hO.block_below h)).trans rfl
    have cO8 : ∀ w', Below X.heap.size X w' → w'.cell? ⟨og, 8, none⟩ = some (.int .u64 2) := fun w' h => (cell_of_row _ _ 8 _ _ _ (hO.block_below h)).trans rfl
    have cO9 : ∀ w', Below X.heap.size X w' → w'.cell? ⟨og, 9, none⟩ = some (.int .u64 0) := fun w' h => (cell_of_row _ _ 9 _ _ _ (hO.block_below h)).trans rfl
    have cO10 : ∀ w', Below X.heap.size X w' → w'.cell? ⟨og, 10, none⟩ = some (.int .u64 0) := fun w' h => (cell_of_row _ _ 10 _ _ _ (hO.block_below h)).trans rfl
    have cO11 : ∀ w', Below X.heap.size X w' → w'.cell? ⟨og, 11, none⟩ = some (.int .u64 0) := fun w' h => (cell_of_row _ _ 11 _ _ _ (hO.block_below h)).trans rfl
    have cO12 : ∀ w', Below X.heap.size X w' → w'.cell? ⟨og, 12, none⟩ = some (.int .u64 4) := fun w' h => (cell_of_row _ _ 12 _ _ _ (hO.block_below h)).trans rfl
    have cO13 : ∀ w', Below X.heap.size X w' → w'.cell? ⟨og, 13, none⟩ = some (.int .u64 0) := fun w' h => (cell_of_row _ _ 13 _ _ _ (hO.block_below h)).trans rfl
    have cO14 : ∀ w', Below X.heap.size X w' → w'.cell? ⟨og, 14, none⟩ = some (.int .u64 0) := fun w' h => (cell_of_row _ _ 14 _ _ _ (hO.block_below h)).trans rfl
    have cO15 : ∀ w', Below X.heap.size X w' → w'.cell? ⟨og, 15, none⟩ = some (.int .u64 0) := fun w' h => (cell_of_row _ _ 15 _ _ _ (hO.block_below h)).trans rfl
    have cO16 : ∀ w', Below X.heap.size X w' → w'.cell? ⟨og, 16, none⟩ = some (.int .u64 7) := fun w' h => (cell_of_row _ _ 16 _ _ _ (hO.block_below h)).trans rfl
    have cO17 : ∀ w', Below X.heap.size X w' → w'.cell? ⟨og, 17, none⟩ = some (.int .u64 0) := fun w' h => (cell_of_row _ _ 17 _ _ _ (hO.block_below h)).trans rfl
    have cO18 : ∀ w', Below X.heap.size X w' → w'.cell? ⟨og, 18, none⟩ = some (.int .u64 0) := fun w' h => (cell_of_row _ _ 18 _ _ _ (hO.block_below h)).trans rfl
    have cO19 : ∀ w', Below X.heap.size X w' → w'.cell? ⟨og, 19, none⟩ = some (.int .u64 0) := fun w' h => (cell_of_row _ _ 19 _ _ _ (hO.block_below h)).trans rfl
    have cS : ∀ w', Below X.heap.size X w' → w'.cell? ⟨sg, 0, none⟩ = some (.string ⟨#[109, 115, 109, 103]⟩) := fun w' h => (cell_of_row _ _ 0 _ _ _ (hS.block_below h)).trans (by kernel_rfl)
    have heq := eq_sameW
    have h0 : Below X.heap.size X X.drew := (Below.refl _ _).drew
    have HB := Lib.hid hB
    have HK := Lib.hid hK
    clear hO hS hB hK
    go_region_held3 (fun w' => Below X.heap.size X w') (first | assumption | exact rstep (by assumption) (by assumption))
      (first
        | (go_at_call 11; refine (div_works _).mono ?_; rintro e wk ⟨rfl, hk⟩)
        | (go_at_call 12; refine (mod_works _).mono ?_; rintro e wk ⟨rfl, hk⟩)
        | (go_at_call 13; refine (sdiv_works _).mono ?_; rintro e wk ⟨rfl, hk⟩)
        | (go_at_call 15; refine (smod_works _).mono ?_; rintro e wk ⟨rfl, hk⟩)
        | (go_at_call 16; refine (addmod_works _).mono ?_; rintro e wk ⟨rfl, hk⟩)
        | (go_at_call 17; refine (mulmod_works _).mono ?_; rintro e wk ⟨rfl, hk⟩)
        | (go_at_call 10; refine (rof_int _ _).mono ?_; rintro e wk ⟨rfl, hk⟩)
        | (go_at_call 14; refine (below_7 _).mono ?_; rintro e wk ⟨rfl, hk⟩)
        | (go_at_call 14; refine (below_3 _).mono ?_; rintro e wk ⟨rfl, hk⟩)
        | (go_at_call 14; refine (below_1 _).mono ?_; rintro e wk ⟨rfl, hk⟩))
    all_goals
      go_wp2
      have hX : Below X.heap.size X wk := by assumption
      refine ⟨by simp, .inl ⟨_, _, rfl, run_takeDeferred ((hX.block D hDX).trans HK.out), ?_⟩⟩
      exact ⟨_, results_tmp rfl _ _ _, rfl, (bstep HB.out hX).trans (below_put _ _ hWD)⟩
  case stop =>
    rintro D c pre X _ _ h _
    exact h.elim
end Go.Proofs.Ythdapmceafnhgaa
